/-
What is proved: code run, as the program runs it.
-/
import Derived.Test.YtdidgbibbkhnhaaExD0
import Derived.Test.YtdidgbibbkhnhaaExD1
import Derived.Test.YtdidgbibbkhnhaaExD2
import Derived.Test.YtdidgbibbkhnhaaExD3
import Derived.Test.YtdidgbibbkhnhaaCoI
import Derived.Test.YtdidgbibbkhnhaaAllIn
import Derived.Test.YtdidgbibbkhnhaaExP
import Derived.Deep.RegionWith
namespace Go.Proofs.Ytdidgbibbkhnhaa
set_option maxRecDepth 40000
open Go.RowKit
set_option linter.unusedVariables false
set_option linter.unusedSimpArgs false

theorem do_any (w0 : World) (p lo b nw a : Nat) (so : Option Addr) (ca : Nat) (si : Option Addr) (ni ci : Nat) (v : Value) (h : Nat) (F N : Nat → Int) (op : Int) (w : World) (p0 : 5 ≤ op) (p1 : op ≤ 16) (ht : (tkL (op.toNat - 1)).length ≤ h) (hh : h ≤ 10) (hF : ∀ j, j < h → -1000000 ≤ F j ∧ F j ≤ 1000000) (HM : Hid (MaAt w0 p lo b nw a so ca si ni ci w v h F N)) : Calls Try.prog 54 #[.pointer (some ⟨p, 0, none⟩), .int .i64 op] w fun e w' => e = .returned (.tuple #[]) ∧ ∃ v', MaAt w0 p lo b nw a so ca si ni ci w' v' (h - (tkL (op.toNat - 1)).length + 1) (puF F (h - (tkL (op.toNat - 1)).length) (clipV (gvV op (F (h - (tkL (op.toNat - 1)).length)) (F (h - (tkL (op.toNat - 1)).length + 1)) (F (h - (tkL (op.toNat - 1)).length + 2))))) N := by
  have hc : op = 5 ∨ op = 6 ∨ op = 7 ∨ op = 8 ∨ op = 9 ∨ op = 10 ∨ op = 11 ∨ op = 12 ∨ op = 13 ∨ op = 14 ∨ op = 15 ∨ op = 16 := by omega
  rcases hc with rfl | rfl | rfl | rfl | rfl | rfl | rfl | rfl | rfl | rfl | rfl | rfl
  · exact do_5 w0 p lo b nw a so ca si ni ci v h F N w ht hh hF HM
  · exact do_6 w0 p lo b nw a so ca si ni ci v h F N w ht hh hF HM
  · exact do_7 w0 p lo b nw a so ca si ni ci v h F N w ht hh hF HM
  · exact do_8 w0 p lo b nw a so ca si ni ci v h F N w ht hh hF HM
  · exact do_9 w0 p lo b nw a so ca si ni ci v h F N w ht hh hF HM
  · exact do_10 w0 p lo b nw a so ca si ni ci v h F N w ht hh hF HM
  · exact do_11 w0 p lo b nw a so ca si ni ci v h F N w ht hh hF HM
  · exact do_12 w0 p lo b nw a so ca si ni ci v h F N w ht hh hF HM
  · exact do_13 w0 p lo b nw a so ca si ni ci v h F N w ht hh hF HM
  · exact do_14 w0 p lo b nw a so ca si ni ci v h F N w ht hh hF HM
  · exact do_15 w0 p lo b nw a so ca si ni ci v h F N w ht hh hF HM
  · exact do_16 w0 p lo b nw a so ca si ni ci v h F N w ht hh hF HM
theorem sm_all (n : Nat) (V : Nat → Int) : allInB (-1000000) 1000000 V n = smB n V := by
  unfold allInB smB inB
  simp
theorem ma_new {w0 : World} {lo b nw a : Nat} {so : Option Addr} {ca : Nat} {si : Option Addr} {ni ci : Nat} {wq : World} {F : Nat → Int} {T : TypeId} (o1 : w0.heap.size ≤ lo) (o2 : w0.heap.size ≤ nw) (o5 : nw < lo ∨ b < nw) (mb : Below w0.heap.size w0 wq) (k : KtAt wq lo b) (n : NwAt nw wq a (fun _ => 0)) : MaAt w0 wq.heap.size lo b nw a so ca si ni ci (wq.alloc (.cells #[.slice (some ⟨b, 0, none⟩) 21 21, .slice none 0 0, .slice (some ⟨nw, 0, none⟩) a a, .slice so a ca, .slice si ni ci] T)) (.slice none 0 0) 0 F (fun _ => 0) :=
  ⟨⟨o1, o2, n.1, k.2.1, o5⟩, mb.alloc mb.size _, by simp, fun o => by simp [go_sem], ⟨by simp [go_sem], by simp [go_sem], by simp [go_sem], by simp [go_sem], by simp [go_sem]⟩, k.below (below0 _ _), n.same (by simp) ((below0 wq _).block nw n.1), .inl ⟨rfl, rfl⟩⟩
theorem nw_made (W : World) (m : Nat) (t : TypeId) : NwAt W.heap.size (W.alloc (.cells (madeCells #[.int .i64 0] m) t)) m (fun _ => 0) := by
  refine ⟨by simp, fun o => by simp [go_sem], fun j hj => ?_⟩
  have hm0 : (madeCells #[.int .i64 0] m)[j]? = some (.int .i64 0) := by
    simp only [madeCells, Array.getElem?_map, Array.getElem?_range, hj, if_true, Option.map_some]
    show some ((#[Value.int .i64 0] : Array Value)[j % 1]!) = _
    rw [Nat.mod_one]; rfl
  simpa [go_sem] using hm0
theorem NwAt.below {g m : Nat} {W W' : World} {N : Nat → Int} (h : NwAt g W m N) (hb : Below W.heap.size W W') : NwAt g W' m N := h.same hb.size (hb.block g h.1)
theorem ma_new1 {w0 w2 : World} {lo b a : Nat} {so : Option Addr} {ca : Nat} {si : Option Addr} {ni ci : Nat} {F : Nat → Int} {t T : TypeId} (o1 : w0.heap.size ≤ lo) (o2 : w0.heap.size ≤ w2.heap.size) (mb : Below w0.heap.size w0 w2) (k : KtAt w2 lo b) : MaAt w0 (w2.heap.size + 1) lo b w2.heap.size a so ca si ni ci ((w2.alloc (.cells (madeCells #[.int .i64 0] a) t)).alloc (.cells #[.slice (some ⟨b, 0, none⟩) 21 21, .slice none 0 0, .slice (some ⟨w2.heap.size, 0, none⟩) a a, .slice so a ca, .slice si ni ci] T)) (.slice none 0 0) 0 F (fun _ => 0) := by
  have h := ma_new (so := so) (ca := ca) (si := si) (ni := ni) (ci := ci) (F := F) (T := T) o1 o2 (.inr k.2.1) (mb.alloc o2 (.cells (madeCells #[.int .i64 0] a) t)) (k.below (below0 _ _)) (nw_made w2 a t)
  rw [show (w2.alloc (.cells (madeCells #[.int .i64 0] a) t)).heap.size = w2.heap.size + 1 by simp] at h
  exact h
set_option maxRecDepth 20000 in
set_option maxHeartbeats 8000000 in
theorem implExec_any (s : Option Addr) (n c : Nat) (V : Nat → Int) (so : Option Addr) (a ca : Nat) (O : Nat → Int) (si : Option Addr) (ni ci : Nat) (I : Nat → Int) (w : World) (hn : (n : Int) ≤ 1048576) (ha : (a : Int) ≤ 1048576) (hni : (ni : Int) ≤ 1048576) (HR : Hid (RowI w s (n * 2) V)) (HO : Hid (RowI w so a O)) (HI : Hid (RowI w si ni I)) :
    Calls Try.prog 9 #[.slice s n c, .slice so a ca, .slice si ni ci] w fun e w' => ExPost w n V a O ni I e w' := by
  go_enter Try.func9, Try.ntmps9
  go_wp2_with fail
  refine (implCodeOk_any s n c V (a : Int) (ni : Int) _ hn HR).mono ?_
  rintro e w1 ⟨rfl, h1⟩
  cases k0 : codeB n V (a : Int) (ni : Int)
  · have HZ : Hid (exB n V a O ni I = false) := by show _ = _; unfold exB; rw [k0]; rfl
    go_wp2
    exact bodyPost_ret (v := .tuple #[.slice none 0 0, .bool false]) (by simp [results, Try.results9, go_sem]) rfl (ex_no HZ.out h1)
  go_wp2_with fail
  refine (allWithin_any so a ca O _ _ _ ha (HO.out.below h1)).mono ?_
  rintro e w1 ⟨rfl, rfl⟩
  rw [sm_all]
  cases k1 : smB a O
  · have HZ : Hid (exB n V a O ni I = false) := by show _ = _; unfold exB; rw [k0, k1]; rfl
    go_wp2
    exact bodyPost_ret (v := .tuple #[.slice none 0 0, .bool false]) (by simp [results, Try.results9, go_sem]) rfl (ex_no HZ.out h1)
  go_wp2_with fail
  refine (allWithin_any si ni ci I _ _ _ hni (HI.out.below h1)).mono ?_
  rintro e w1 ⟨rfl, rfl⟩
  rw [sm_all]
  cases k2 : smB ni I
  · have HZ : Hid (exB n V a O ni I = false) := by show _ = _; unfold exB; rw [k0, k1, k2]; rfl
    go_wp2
    exact bodyPost_ret (v := .tuple #[.slice none 0 0, .bool false]) (by simp [results, Try.results9, go_sem]) rfl (ex_no HZ.out h1)
  have HZ : Hid (exB n V a O ni I = true) := by show _ = _; unfold exB; rw [k0, k1, k2]; rfl
  obtain ⟨n5, ⟨-, a60⟩, ⟨-, i60⟩, hJ, -⟩ := code_yes k0
  have HJ : Hid (∀ j, j < n → coJ (a : Int) (ni : Int) V j = true) := hJ
  have SO := sm_yes k1
  have SI := sm_yes k2
  have HEX : Hid (∀ k, k ≤ n → exOk a (coK V k).2 (exK V O I k) ∧ 0 ≤ (coK V k).2 ∧ (coK V k).2 ≤ 10) := fun k hk => ⟨ex_ok (n := n) SO SI k (fun j hj => hJ j (by omega)), co_rng (n := n) k (fun j hj => hJ j (by omega))⟩
  clear k0 k1 k2 SO SI hJ
  have hmk := make_i64x a (by omega)
  have H1 : Hid (Below w.heap.size w w1) := h1
  clear h1
  go_wp2_with fail
  refine (instrTable_any _).mono ?_
  rintro e w2 ⟨f, rfl, IT, hf0, h2⟩
  have HIT : Hid (ItAt w2 f) := IT
  have B2 : Hid (Below w.heap.size w w2) := H1.out.trans (h2.mono H1.out.size)
  clear IT h2 H1
  go_upto_region 6 with fail
  go_cut [9] (fun x wx => ∃ p lo b nw : Nat, x = .pointer (some ⟨p, 0, none⟩) ∧ w2.heap.size ≤ p ∧ w2.heap.size ≤ nw ∧ Hid (MaAt w2 p lo b nw a so ca si ni ci wx (.slice none 0 0) 0 (fun _ => 0) (fun _ => 0)) ∧ Hid (Below w2.heap.size w2 wx))
  case first =>
    go_region_with (first
      | (go_at_call 31; refine (blockTable_any _).mono ?_; rintro e w3 ⟨b, rfl, KT, h3⟩; have B3 : Below w2.heap.size w2 w3 := Below.trans (by repeat (first | with_reducible exact Below.refl _ _ | with_reducible refine Below.setCell ?_ (by first | omega | (simp; done) | (simp; omega)) _ | with_reducible refine bDrewN ?_ _ | with_reducible refine Below.drew ?_ | with_reducible refine Below.alloc ?_ (by first | omega | (simp; done) | (simp; omega)) _)) (h3.mono (by first | omega | (simp; done) | (simp; omega))); (try (with_reducible have BO := NwAt.below (NwAt.below (nw_made w2 a 2) (Below.drew (Below.refl _ _))) h3)); have sb := KT.1; have sb2 := KT.2.1; have sb3 := B3.size; (try simp at sb)))
    all_goals
      go_wp2_with fail
      go_meet
      case rel =>
        first
          | (have q := BO; exact ⟨_, _, b, _, rfl, by omega, Nat.le_refl _, ma_new (by simp) (Nat.le_refl _) (.inl (by simp)) B3 KT BO, (show Below w2.heap.size w2 _ from (by repeat (first | with_reducible exact Below.refl _ _ | with_reducible exact B3 | with_reducible refine Below.setCell ?_ (by first | omega | (simp; done) | (simp; omega)) _ | with_reducible refine bDrewN ?_ _ | with_reducible refine Below.drew ?_ | with_reducible refine Below.alloc ?_ (by first | omega | (simp; done) | (simp; omega)) _)))⟩)
          | exact ⟨_, _, b, _, rfl, by omega, by omega, ma_new1 (by simp) B3.size B3 KT, (show Below w2.heap.size w2 _ from (by repeat (first | with_reducible exact Below.refl _ _ | with_reducible exact B3 | with_reducible refine Below.setCell ?_ (by first | omega | (simp; done) | (simp; omega)) _ | with_reducible refine bDrewN ?_ _ | with_reducible refine Below.drew ?_ | with_reducible refine Below.alloc ?_ (by first | omega | (simp; done) | (simp; omega)) _)))⟩
  obtain ⟨p, lo, b, nw, rfl, hp, hnw, HMA, HB3⟩ := hcut
  rename World => w3
  have HO2 : Hid (RowI w2 so a O) := HO.out.below B2.out
  have HI2 : Hid (RowI w2 si ni I) := HI.out.below B2.out
  clear HB3
  go_wp2_with fail
  go_loopw [38] (fun i wr => ∃ k : Nat, ∃ v : Value, k ≤ n ∧ i = .int .i64 k ∧ Hid (MaAt w2 p lo b nw a so ca si ni ci wr v (exK V O I k).h (exK V O I k).F (exK V O I k).N)) (fun i _ => n - (intOf i).toNat)
  case atStart => exact ⟨0, _, Nat.zero_le _, rfl, HMA.out⟩
  case round =>
    obtain ⟨k, v, hk, rfl, HM⟩ := hrel
    obtain ⟨eok, hr0, hr1⟩ := HEX.out k hk
    have HB : Below w.heap.size w wr := B2.out.trans (HM.out.2.1.mono B2.out.size)
    obtain ⟨S, hS⟩ : ∃ S, exK V O I k = S := ⟨_, rfl⟩
    rw [hS] at HM eok
    obtain ⟨es, hSF, -⟩ := eok
    have hh : S.h ≤ 10 := by omega
    by_cases h1 : k < n
    · obtain ⟨g1, o, rfl, hg1, x0⟩ := HR.out (k * 2) (by omega)
      obtain ⟨g', o', e', hg2, x1⟩ := HR.out (k * 2 + 1) (by omega)
      cases e'
      have y0 : wr.cell? ⟨g1, o + k * 2, none⟩ = some (.int .i64 (V (k * 2))) := (HB.cell (p := ⟨g1, o + k * 2, none⟩) hg1).trans x0
      have y1 : wr.cell? ⟨g1, o + k * 2 + 1, none⟩ = some (.int .i64 (V (k * 2 + 1))) := (HB.cell (p := ⟨g1, o + (k * 2 + 1), none⟩) hg1).trans x1
      have zg : g1 < wr.heap.size := Nat.lt_of_lt_of_le hg1 HB.size
      have k1 : (k : Int) < (n : Int) := by omega
      have hct := HJ.out k h1
      have hctE : ctB (a : Int) (ni : Int) (coK V k).1 (coK V k).2 (V (k * 2)) (V (k * 2 + 1)) = true := hct
      have HNX : exK V O I (k + 1) = exN O I S (V (k * 2)) (V (k * 2 + 1)) := by show exN _ _ _ _ _ = _; rw [hS]
      obtain ⟨op, hop⟩ : ∃ op, V (k * 2) = op := ⟨_, rfl⟩
      obtain ⟨N, hN⟩ : ∃ N, V (k * 2 + 1) = N := ⟨_, rfl⟩
      rw [hop] at y0 hctE HNX
      rw [hN] at y1 hctE HNX
      obtain ⟨⟨op0, op1⟩, j1, j3, j4, j5⟩ := ct_idx hctE
      have j6 := (ct_yes hctE).2.1
      have HE : Hid (exK V O I (k + 1) = exN O I S op N) := HNX
      have ITk : Hid (ItAt wr f) := HIT.out.below HM.out.2.1
      clear x0 x1 hg1 hg2 hop hN hct hctE HNX hS HB
      go_upto_region 10 with fail
      obtain ⟨wd, hwd⟩ : ∃ wd, wd = wr.alloc (.cells #[.int .i64 op, .int .i64 N] 31) := ⟨_, rfl⟩
      rw [← hwd]
      have bd : Below wr.heap.size wr wd := by rw [hwd]; exact (by repeat (first | with_reducible exact Below.refl _ _ | with_reducible refine Below.setCell ?_ (by first | omega | (simp; done) | (simp; omega)) _ | with_reducible refine bDrewN ?_ _ | with_reducible refine Below.drew ?_ | with_reducible refine Below.alloc ?_ (by first | omega | (simp; done) | (simp; omega)) _))
      have a0 : wd.cell? ⟨wr.heap.size, 0, none⟩ = some (.int .i64 op) := by rw [hwd]; simp [go_sem]
      have a1 : wd.cell? ⟨wr.heap.size, 1, none⟩ = some (.int .i64 N) := by rw [hwd]; simp [go_sem]
      have z1 : wr.heap.size < wd.heap.size := by rw [hwd]; simp
      have HMd : Hid (MaAt w2 p lo b nw a so ca si ni ci wd v S.h S.F S.N) := HM.out.below bd
      have HF2 : Hid (ItAt wd f) := ITk.out.below bd
      clear hwd y0 y1 zg bd HM ITk
      have hc : op = 1 ∨ op = 2 ∨ op = 3 ∨ op = 4 ∨ op = 5 ∨ op = 6 := by omega
      clear op0 op1
      rcases hc with rfl | rfl | rfl | rfl | rfl | rfl
      · obtain ⟨zf2, cf⟩ := HF2.out
        have t0 : wd.cell? ⟨f, 1, none⟩ = some (.func (.func 46) #[] #[]) := cf 1 (by omega)
        have ix : IntKind.i64.wrap ((1 : Int) - 1) = 0 := rfl
        clear cf
        obtain ⟨n0, n1⟩ := j1 (.inl rfl)
        obtain ⟨M, rfl⟩ : ∃ M : Nat, N = (M : Int) := ⟨N.toNat, by omega⟩
        go_region_with (first
          | (go_at_call 46; refine (layNow_any w2 p lo b nw a so ca si ni ci v S.h S.F S.N M _ (by omega) (by omega) hh (HMd.out.below (by repeat (first | with_reducible exact Below.refl _ _ | with_reducible refine Below.setCell ?_ (by first | omega | (simp; done) | (simp; omega)) _ | with_reducible refine bDrewN ?_ _ | with_reducible refine Below.drew ?_ | with_reducible refine Below.alloc ?_ (by first | omega | (simp; done) | (simp; omega)) _)))).mono ?_; rintro e w4 ⟨rfl, v', hma⟩; have HX : Hid (MaAt w2 p lo b nw a so ca si ni ci w4 v' _ _ _) := hma; clear hma))
        all_goals
          go_wp2
          go_roundw
          case rel => exact ⟨k + 1, v', by omega, by go_num, by rw [HE.out, exn1]; exact HX.out⟩
          case measure => first | (simp [intOf]; done) | (simp [intOf]; omega)
      · obtain ⟨zf2, cf⟩ := HF2.out
        have t0 : wd.cell? ⟨f, 3, none⟩ = some (.func (.func 48) #[] #[]) := cf 3 (by omega)
        have ix : IntKind.i64.wrap ((2 : Int) - 1) = 1 := rfl
        clear cf
        obtain ⟨n0, n1⟩ := j1 (.inr (.inl rfl))
        obtain ⟨M, rfl⟩ : ∃ M : Nat, N = (M : Int) := ⟨N.toNat, by omega⟩
        go_region_with (first
          | (go_at_call 48; refine (layOld_any w2 p lo b nw a so ca si ni ci v S.h S.F S.N M _ O (by omega) (by omega) HO2 hh (HMd.out.below (by repeat (first | with_reducible exact Below.refl _ _ | with_reducible refine Below.setCell ?_ (by first | omega | (simp; done) | (simp; omega)) _ | with_reducible refine bDrewN ?_ _ | with_reducible refine Below.drew ?_ | with_reducible refine Below.alloc ?_ (by first | omega | (simp; done) | (simp; omega)) _)))).mono ?_; rintro e w4 ⟨rfl, v', hma⟩; have HX : Hid (MaAt w2 p lo b nw a so ca si ni ci w4 v' _ _ _) := hma; clear hma))
        all_goals
          go_wp2
          go_roundw
          case rel => exact ⟨k + 1, v', by omega, by go_num, by rw [HE.out, exn2]; exact HX.out⟩
          case measure => first | (simp [intOf]; done) | (simp [intOf]; omega)
      · obtain ⟨zf2, cf⟩ := HF2.out
        have t0 : wd.cell? ⟨f, 5, none⟩ = some (.func (.func 50) #[] #[]) := cf 5 (by omega)
        have ix : IntKind.i64.wrap ((3 : Int) - 1) = 2 := rfl
        clear cf
        go_region_with (first
          | (go_at_call 50; refine (lay_any w2 p lo b nw a so ca si ni ci v S.h S.F S.N N _ hh (HMd.out.below (by repeat (first | with_reducible exact Below.refl _ _ | with_reducible refine Below.setCell ?_ (by first | omega | (simp; done) | (simp; omega)) _ | with_reducible refine bDrewN ?_ _ | with_reducible refine Below.drew ?_ | with_reducible refine Below.alloc ?_ (by first | omega | (simp; done) | (simp; omega)) _)))).mono ?_; rintro e w4 ⟨rfl, v', hma⟩; have HX : Hid (MaAt w2 p lo b nw a so ca si ni ci w4 v' _ _ _) := hma; clear hma))
        all_goals
          go_wp2
          go_roundw
          case rel => exact ⟨k + 1, v', by omega, by go_num, by rw [HE.out, exn3]; exact HX.out⟩
          case measure => first | (simp [intOf]; done) | (simp [intOf]; omega)
      · obtain ⟨zf2, cf⟩ := HF2.out
        have t0 : wd.cell? ⟨f, 7, none⟩ = some (.func (.func 52) #[] #[]) := cf 7 (by omega)
        have ix : IntKind.i64.wrap ((4 : Int) - 1) = 3 := rfl
        clear cf
        obtain ⟨n0, n1⟩ := j4 rfl
        obtain ⟨M, rfl⟩ : ∃ M : Nat, N = (M : Int) := ⟨N.toNat, by omega⟩
        go_region_with (first
          | (go_at_call 52; refine (layIn_any w2 p lo b nw a so ca si ni ci v S.h S.F S.N M _ I (by omega) (by omega) HI2 hh (HMd.out.below (by repeat (first | with_reducible exact Below.refl _ _ | with_reducible refine Below.setCell ?_ (by first | omega | (simp; done) | (simp; omega)) _ | with_reducible refine bDrewN ?_ _ | with_reducible refine Below.drew ?_ | with_reducible refine Below.alloc ?_ (by first | omega | (simp; done) | (simp; omega)) _)))).mono ?_; rintro e w4 ⟨rfl, v', hma⟩; have HX : Hid (MaAt w2 p lo b nw a so ca si ni ci w4 v' _ _ _) := hma; clear hma))
        all_goals
          go_wp2
          go_roundw
          case rel => exact ⟨k + 1, v', by omega, by go_num, by rw [HE.out, exn4]; exact HX.out⟩
          case measure => first | (simp [intOf]; done) | (simp [intOf]; omega)
      · obtain ⟨zf2, cf⟩ := HF2.out
        have t0 : wd.cell? ⟨f, 9, none⟩ = some (.func (.func 54) #[] #[]) := cf 9 (by omega)
        have ix : IntKind.i64.wrap ((5 : Int) - 1) = 4 := rfl
        clear cf
        obtain ⟨n0, n1⟩ := j5 rfl
        have ht : (tkL (N.toNat - 1)).length ≤ S.h := by have q : ((tkL (N.toNat - 1)).length : Int) ≤ (coK V k).2 := j6; omega
        go_region_with (first
          | (go_at_call 54; refine (do_any w2 p lo b nw a so ca si ni ci v S.h S.F S.N N _ n0 n1 ht hh hSF (HMd.out.below (by repeat (first | with_reducible exact Below.refl _ _ | with_reducible refine Below.setCell ?_ (by first | omega | (simp; done) | (simp; omega)) _ | with_reducible refine bDrewN ?_ _ | with_reducible refine Below.drew ?_ | with_reducible refine Below.alloc ?_ (by first | omega | (simp; done) | (simp; omega)) _)))).mono ?_; rintro e w4 ⟨rfl, v', hma⟩; have HX : Hid (MaAt w2 p lo b nw a so ca si ni ci w4 v' _ _ _) := hma; clear hma))
        all_goals
          go_wp2
          go_roundw
          case rel => exact ⟨k + 1, v', by omega, by go_num, by rw [HE.out, exn5]; exact HX.out⟩
          case measure => first | (simp [intOf]; done) | (simp [intOf]; omega)
      · obtain ⟨zf2, cf⟩ := HF2.out
        have t0 : wd.cell? ⟨f, 11, none⟩ = some (.func (.func 56) #[] #[]) := cf 11 (by omega)
        have ix : IntKind.i64.wrap ((6 : Int) - 1) = 5 := rfl
        clear cf
        obtain ⟨n0, n1⟩ := j1 (.inr (.inr rfl))
        obtain ⟨M, rfl⟩ : ∃ M : Nat, N = (M : Int) := ⟨N.toNat, by omega⟩
        have ht : 1 ≤ S.h := by have q : (1 : Int) ≤ (coK V k).2 := j6; omega
        go_region_with (first
          | (go_at_call 56; refine (keep_any w2 p lo b nw a so ca si ni ci v S.h S.F S.N M _ (by omega) (by omega) ht hh (HMd.out.below (by repeat (first | with_reducible exact Below.refl _ _ | with_reducible refine Below.setCell ?_ (by first | omega | (simp; done) | (simp; omega)) _ | with_reducible refine bDrewN ?_ _ | with_reducible refine Below.drew ?_ | with_reducible refine Below.alloc ?_ (by first | omega | (simp; done) | (simp; omega)) _)))).mono ?_; rintro e w4 ⟨rfl, v', hma⟩; have HX : Hid (MaAt w2 p lo b nw a so ca si ni ci w4 v' _ _ _) := hma; clear hma))
        all_goals
          go_wp2
          go_roundw
          case rel => exact ⟨k + 1, v', by omega, by go_num, by rw [HE.out, exn6]; exact HX.out⟩
          case measure => first | (simp [intOf]; done) | (simp [intOf]; omega)
    · obtain rfl : k = n := by omega
      rw [← hS] at HM
      obtain ⟨⟨q1, q2, -⟩, mb, z, -, ⟨-, -, d2, -, -⟩, -, ⟨zn, nf, nc⟩, -⟩ := HM.out
      have HOW : Hid (OwnI w.heap.size wr (some ⟨nw, 0, none⟩) a (exK V O I k).N) := fun j hj => ⟨nw, rfl, Nat.le_trans B2.out.size q2, zn, nc j hj, nf j⟩
      have BX : Below w.heap.size w wr := HB
      clear hS es hSF nc nf HB
      go_wp2
      exact bodyPost_ret (v := .tuple #[.slice (some ⟨nw, 0, none⟩) a a, .bool true]) (by simp [results, Try.results9, go_sem]) rfl (ex_yes HZ.out HOW.out BX)
end Go.Proofs.Ytdidgbibbkhnhaa
