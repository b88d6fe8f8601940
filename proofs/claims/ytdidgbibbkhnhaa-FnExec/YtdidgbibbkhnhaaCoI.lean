/-
What is proved: when code may be run, as the program tells it.
-/
import Derived.Test.YtdidgbibbkhnhaaCoT
import Derived.Deep.RegionWith
import Derived.Deep.RegionHeldLaw
namespace Go.Proofs.Ytdidgbibbkhnhaa
set_option maxRecDepth 40000
open Go.RowKit
set_option linter.unusedVariables false
set_option linter.unusedSimpArgs false

def itA : Array Value := #[.func (.func 45) #[] #[], .func (.func 46) #[] #[], .func (.func 47) #[] #[], .func (.func 48) #[] #[], .func (.func 49) #[] #[], .func (.func 50) #[] #[], .func (.func 51) #[] #[], .func (.func 52) #[] #[], .func (.func 53) #[] #[], .func (.func 54) #[] #[], .func (.func 55) #[] #[], .func (.func 56) #[] #[]]
/-- The table of instructions at a block. -/
def ItAt (W : World) (b : Nat) : Prop := b < W.heap.size ∧ ∀ j, j < 12 → W.cell? ⟨b, j, none⟩ = itA[j]?
theorem ItAt.same {W W' : World} {b : Nat} (h : ItAt W b) (hs : W.heap.size ≤ W'.heap.size) (hb : W'.heap[b]? = W.heap[b]?) : ItAt W' b := ⟨Nat.lt_of_lt_of_le h.1 hs, fun j hj => (World.cell?_of_block (w := W) hb).trans (h.2 j hj)⟩
theorem ItAt.below {W W' : World} {b : Nat} (h : ItAt W b) (hb : Below W.heap.size W W') : ItAt W' b := h.same hb.size (hb.block b h.1)
set_option maxRecDepth 20000 in
set_option maxHeartbeats 2000000 in
theorem instrTable_any (w : World) : Calls Try.prog 30 #[] w fun e w' => ∃ b, e = .returned (.slice (some ⟨b, 0, none⟩) 6 6) ∧ ItAt w' b ∧ w.heap.size ≤ b ∧ Below w.heap.size w w' := by
  go_enter Try.func30, Try.ntmps30
  go_wp2
  go_ret
  exact ⟨_, rfl, ⟨by simp, fun j hj => by simp [go_sem, itA]⟩, Nat.le_refl _, (by repeat (first | with_reducible exact Below.refl _ _ | with_reducible refine Below.setCell ?_ (by first | omega | (simp; done) | (simp; omega)) _ | with_reducible refine bDrewN ?_ _ | with_reducible refine Below.drew ?_ | with_reducible refine Below.alloc ?_ (by first | omega | (simp; done) | (simp; omega)) _))⟩
set_option maxHeartbeats 400000 in
theorem tr_new {wq : World} {lo b g c : Nat} {C I : Int} {T : TypeId} (k : KtAt wq lo b) (bo : BoAt g wq c (fun _ => false)) (hg : g < lo ∨ b < g) : TrAt wq.heap.size lo b g (wq.alloc (.cells #[.slice (some ⟨b, 0, none⟩) 21 21, .int .i64 C, .int .i64 I, .slice (some ⟨g, 0, none⟩) c c, .int .i64 0] T)) C I c (fun _ => false) 0 :=
  ⟨by simp, fun o => by simp [go_sem], ⟨by simp [go_sem], by simp [go_sem], by simp [go_sem], by simp [go_sem], by simp [go_sem]⟩, k.below (below0 _ _), bo.below (below0 _ _), k.2.1, bo.1, hg⟩
def MayQ (p lo b g : Nat) (wd : World) (C I : Int) (c : Nat) (K : Nat → Bool) (h op N : Int) (x : Value) (wx : World) : Prop := ∃ r w0, x = .bool (!r) ∧ r = ctB C I K h op N ∧ Below wd.heap.size wd w0 ∧ Tw p g w0 wx ∧ (r = true → TrAt p lo b g wx C I c (nxK K op N) (nxH h op N))
theorem tr_new1 {w2 : World} {lo b c : Nat} {C I : Int} {t T : TypeId} (k : KtAt w2 lo b) : TrAt (w2.heap.size + 1) lo b w2.heap.size ((w2.alloc (.cells (madeCells #[.bool false] c) t)).alloc (.cells #[.slice (some ⟨b, 0, none⟩) 21 21, .int .i64 C, .int .i64 I, .slice (some ⟨w2.heap.size, 0, none⟩) c c, .int .i64 0] T)) C I c (fun _ => false) 0 := by
  have h := tr_new (C := C) (I := I) (T := T) (k.below (below0 w2 (.cells (madeCells #[.bool false] c) t))) (bo_made w2 c t) (.inr k.2.1)
  rw [show (w2.alloc (.cells (madeCells #[.bool false] c) t)).heap.size = w2.heap.size + 1 by simp] at h
  exact h
theorem keepI3 {W W' : World} {q r j : Nat} {v0 v1 v2 : Value} (h0 : W.cell? ⟨q, 0, none⟩ = some v0) (h1 : W.cell? ⟨q, 1, none⟩ = some v1) (h2 : W.cell? ⟨r, j, none⟩ = some v2) (zq : q < W.heap.size) (zr : r < W.heap.size) (hb : Below W.heap.size W W') : W'.cell? ⟨q, 0, none⟩ = some v0 ∧ W'.cell? ⟨q, 1, none⟩ = some v1 ∧ W'.cell? ⟨r, j, none⟩ = some v2 :=
  ⟨(hb.cell (p := ⟨q, 0, none⟩) zq).trans h0, (hb.cell (p := ⟨q, 1, none⟩) zq).trans h1, (hb.cell (p := ⟨r, j, none⟩) zr).trans h2⟩
theorem Tw.cell {p g : Nat} {w w' : World} (h : Tw p g w w') {a : Addr} (ha : a.block < w.heap.size) (n1 : a.block ≠ p) (n2 : a.block ≠ g) : w'.cell? a = w.cell? a := World.cell?_of_block (w := w) (h.2.2.2.2 a.block ha n1 n2)
theorem keepJ3 {W W0 W' : World} {p g q r j : Nat} {v0 v1 v2 : Value} (h0 : W.cell? ⟨q, 0, none⟩ = some v0) (h1 : W.cell? ⟨q, 1, none⟩ = some v1) (h2 : W.cell? ⟨r, j, none⟩ = some v2) (zq : q < W.heap.size) (zr : r < W.heap.size) (nq : q ≠ p ∧ q ≠ g) (nr : r ≠ p ∧ r ≠ g) (ht : Tw p g W0 W') (hb : Below W.heap.size W W0) : W'.cell? ⟨q, 0, none⟩ = some v0 ∧ W'.cell? ⟨q, 1, none⟩ = some v1 ∧ W'.cell? ⟨r, j, none⟩ = some v2 := by
  have z1 := Nat.lt_of_lt_of_le zq hb.size
  have z2 := Nat.lt_of_lt_of_le zr hb.size
  obtain ⟨k0, k1, k2⟩ := keepI3 h0 h1 h2 zq zr hb
  exact ⟨(ht.cell (a := ⟨q, 0, none⟩) z1 nq.1 nq.2).trans k0, (ht.cell (a := ⟨q, 1, none⟩) z1 nq.1 nq.2).trans k1, (ht.cell (a := ⟨r, j, none⟩) z2 nr.1 nr.2).trans k2⟩
set_option maxRecDepth 20000 in
set_option maxHeartbeats 8000000 in
theorem implCodeOk_any (s : Option Addr) (n c : Nat) (V : Nat → Int) (C I : Int) (w : World) (hn : (n : Int) ≤ 1048576) (HR : Hid (RowI w s (n * 2) V)) :
    Calls Try.prog 19 #[.slice s n c, .int .i64 C, .int .i64 I] w fun e w' => e = .returned (.bool (codeB n V C I)) ∧ Below w.heap.size w w' := by
  by_cases n5 : 500 < n
  · have HO : Hid (codeB n V C I = false) := code_far (by omega)
    have b1 : (500 : Int) < (n : Int) := by omega
    go_enter Try.func19, Try.ntmps19
    go_wp2
    go_ret
    exact ⟨ret_bool HO.out.symm, Below.refl _ _⟩
  have b1 : decide ((500 : Int) < (n : Int)) = false := decide_eq_false (by omega)
  cases hC : inB 0 60 C
  · have HO : Hid (codeB n V C I = false) := code_c hC
    go_enter Try.func19, Try.ntmps19
    go_wp2_with fail
    refine (within_is _ _ _ _).mono ?_
    rintro e w1 ⟨rfl, rfl⟩
    rw [hC]
    go_wp2
    go_ret
    exact ⟨ret_bool HO.out.symm, Below.refl _ _⟩
  cases hI : inB 0 60 I
  · have HO : Hid (codeB n V C I = false) := code_i hI
    go_enter Try.func19, Try.ntmps19
    go_wp2_with fail
    refine (within_is _ _ _ _).mono ?_
    rintro e w1 ⟨rfl, rfl⟩
    rw [hC]
    go_wp2_with fail
    refine (within_is _ _ _ _).mono ?_
    rintro e w1 ⟨rfl, rfl⟩
    rw [hI]
    go_wp2
    go_ret
    exact ⟨ret_bool HO.out.symm, Below.refl _ _⟩
  have cC := inB_yes hC
  obtain ⟨K0, rfl⟩ : ∃ K0 : Nat, C = (K0 : Int) := ⟨C.toNat, by omega⟩
  have iI := inB_yes hI
  obtain ⟨c0, c1⟩ := cC
  obtain ⟨i0, i1⟩ := iI
  have hmk := make_bools K0 (by omega)
  have HC : Hid (inB 0 60 (K0 : Int) = true) := hC
  have HI : Hid (inB 0 60 I = true) := hI
  go_enter Try.func19, Try.ntmps19
  go_wp2_with fail
  refine (within_is _ _ _ _).mono ?_
  rintro e w1 ⟨rfl, rfl⟩
  rw [hC]
  go_wp2_with fail
  refine (within_is _ _ _ _).mono ?_
  rintro e w ⟨rfl, rfl⟩
  rw [hI]
  clear hC hI
  go_wp2_with fail
  refine (instrTable_any _).mono ?_
  rintro e w1 ⟨f, rfl, IT, hf0, h1⟩
  have HIT : Hid (ItAt w1 f) := IT
  have B1 : Hid (Below w.heap.size w w1) := h1
  clear IT h1
  go_upto_region 4 with fail
  go_cut [8] (fun x wx => ∃ p lo b g : Nat, x = .pointer (some ⟨p, 0, none⟩) ∧ w1.heap.size ≤ p ∧ w1.heap.size ≤ g ∧ Hid (TrAt p lo b g wx (K0 : Int) I K0 (fun _ => false) 0) ∧ Hid (Below w1.heap.size w1 wx))
  case first =>
    go_region_with (first
      | (go_at_call 31; refine (blockTable_any _).mono ?_; rintro e w2 ⟨b, rfl, KT, h2⟩; have B2 : Below w1.heap.size w1 w2 := Below.trans (by repeat (first | with_reducible exact Below.refl _ _ | with_reducible refine Below.setCell ?_ (by first | omega | (simp; done) | (simp; omega)) _ | with_reducible refine bDrewN ?_ _ | with_reducible refine Below.drew ?_ | with_reducible refine Below.alloc ?_ (by first | omega | (simp; done) | (simp; omega)) _)) (h2.mono (by first | omega | (simp; done) | (simp; omega))); (try (with_reducible have BO := BoAt.below (BoAt.below (bo_made w1 K0 4) (Below.drew (Below.refl _ _))) h2)); have sb := KT.1; have sb2 := KT.2.1; have sb3 := B2.size; (try simp at sb)))
    all_goals
      go_wp2_with fail
      go_meet
      case rel =>
        first
          | (have q := BO; exact ⟨_, _, b, _, rfl, by omega, Nat.le_refl _, tr_new KT BO (.inl (by simp)), (show Below w1.heap.size w1 _ from (by repeat (first | with_reducible exact Below.refl _ _ | with_reducible exact B2 | with_reducible refine Below.setCell ?_ (by first | omega | (simp; done) | (simp; omega)) _ | with_reducible refine bDrewN ?_ _ | with_reducible refine Below.drew ?_ | with_reducible refine Below.alloc ?_ (by first | omega | (simp; done) | (simp; omega)) _)))⟩)
          | exact ⟨_, _, b, _, rfl, by omega, by omega, tr_new1 KT, (show Below w1.heap.size w1 _ from (by repeat (first | with_reducible exact Below.refl _ _ | with_reducible exact B2 | with_reducible refine Below.setCell ?_ (by first | omega | (simp; done) | (simp; omega)) _ | with_reducible refine bDrewN ?_ _ | with_reducible refine Below.drew ?_ | with_reducible refine Below.alloc ?_ (by first | omega | (simp; done) | (simp; omega)) _)))⟩
  obtain ⟨p, lo, b, g, rfl, hp, hg, HTR, HB2⟩ := hcut
  rename World => w2
  have HI2 : Hid (ItAt w2 f) := HIT.out.below HB2.out
  have B2 : Hid (Below w.heap.size w w2) := B1.out.trans (HB2.out.mono B1.out.size)
  have sz12 : w.heap.size ≤ w1.heap.size := B1.out.size
  have zf : f < w1.heap.size := HIT.out.1
  have HBB : Hid (Below w.heap.size w w1) := B1.out
  clear HIT B1
  go_wp2_with fail
  go_loopw [34] (fun i wr => ∃ k : Nat, ∃ (K : Nat → Bool) (h : Int), k ≤ n ∧ i = .int .i64 k ∧ Hid (coK V k = (K, h)) ∧ Hid (∀ j, j < k → coJ (K0 : Int) I V j = true) ∧ Hid (TrAt p lo b g wr (K0 : Int) I K0 K h) ∧ Hid (ItAt wr f) ∧ Hid (Below w1.heap.size w1 wr)) (fun i _ => n - (intOf i).toNat)
  case atStart => exact ⟨0, fun _ => false, 0, Nat.zero_le _, rfl, rfl, fun j hj => by omega, HTR.out, HI2.out, HB2.out⟩
  case round =>
    obtain ⟨k, K, h, hk, rfl, HST, HA, HT, HF, HW1⟩ := hrel
    have hr := co_rng (n := n) k HA.out
    rw [HST.out] at hr
    simp only at hr
    obtain ⟨hr0, hr1⟩ := hr
    have HW : Hid (Below w.heap.size w wr) := HBB.out.trans (HW1.out.mono sz12)
    by_cases h1 : k < n
    · obtain ⟨g1, o, rfl, hg1, x0⟩ := HR.out (k * 2) (by omega)
      obtain ⟨g', o', e', hg2, x1⟩ := HR.out (k * 2 + 1) (by omega)
      cases e'
      have y0 : wr.cell? ⟨g1, o + k * 2, none⟩ = some (.int .i64 (V (k * 2))) := (HW.out.cell (p := ⟨g1, o + k * 2, none⟩) hg1).trans x0
      have y1 : wr.cell? ⟨g1, o + k * 2 + 1, none⟩ = some (.int .i64 (V (k * 2 + 1))) := (HW.out.cell (p := ⟨g1, o + (k * 2 + 1), none⟩) hg1).trans x1
      have zg : g1 < wr.heap.size := Nat.lt_of_lt_of_le hg1 HW.out.size
      have k1 : (k : Int) < (n : Int) := by omega
      obtain ⟨op, hop⟩ : ∃ op, V (k * 2) = op := ⟨_, rfl⟩
      obtain ⟨N, hN⟩ : ∃ N, V (k * 2 + 1) = N := ⟨_, rfl⟩
      rw [hop] at y0
      rw [hN] at y1
      have HCT : Hid (coJ (K0 : Int) I V k = ctB (K0 : Int) I K h op N) := by show ctB _ _ _ _ _ _ = _; rw [HST.out, hop, hN]
      have HNX : Hid (coK V (k + 1) = (nxK K op N, nxH h op N)) := by show (nxK _ _ _, nxH _ _ _) = _; rw [HST.out, hop, hN]
      clear x0 x1 hg1 hg2 hop hN
      go_upto_region 8 with fail
      obtain ⟨wd, hwd⟩ : ∃ wd, wd = wr.alloc (.cells #[.int .i64 op, .int .i64 N] 31) := ⟨_, rfl⟩
      rw [← hwd]
      have bd : Below wr.heap.size wr wd := by rw [hwd]; exact (by repeat (first | with_reducible exact Below.refl _ _ | with_reducible refine Below.setCell ?_ (by first | omega | (simp; done) | (simp; omega)) _ | with_reducible refine bDrewN ?_ _ | with_reducible refine Below.drew ?_ | with_reducible refine Below.alloc ?_ (by first | omega | (simp; done) | (simp; omega)) _))
      have a0 : wd.cell? ⟨wr.heap.size, 0, none⟩ = some (.int .i64 op) := by rw [hwd]; simp [go_sem]
      have a1 : wd.cell? ⟨wr.heap.size, 1, none⟩ = some (.int .i64 N) := by rw [hwd]; simp [go_sem]
      have z1 : wr.heap.size < wd.heap.size := by rw [hwd]; simp
      clear hwd y0 y1 zg
      have HT2 : Hid (TrAt p lo b g wd (K0 : Int) I K0 K h) := HT.out.below bd
      have HF2 : Hid (ItAt wd f) := HF.out.below bd
      have HW2 : Hid (Below w1.heap.size w1 wd) := HW1.out.trans (bd.mono HW1.out.size)
      have zp := HT.out.1
      have zgg := HT.out.2.2.2.2.1.1
      have nq : wr.heap.size ≠ p ∧ wr.heap.size ≠ g := by omega
      have nr : f ≠ p ∧ f ≠ g := by omega
      clear HT HF HW1 HW bd
      go_cut [55] (fun x wx => MayQ p lo b g wd (K0 : Int) I K0 K h op N x wx)
      case first =>
        by_cases hop : 1 ≤ op ∧ op ≤ 6
        case neg =>
          have HO : Hid (ctB (K0 : Int) I K h op N = false) := ct_bounds (by unfold cbB; rw [if_neg (by omega), if_neg (by omega), if_neg (by omega), if_neg (by omega)])
          have HWQ : ∀ w, Calls Try.prog 36 #[.int .i64 op, .int .i64 1, .int .i64 6] w fun e w' => e = .returned (.bool false) ∧ w' = w := fun w => within_no op 1 6 w (by omega)
          clear hop
          go_quiet (first | (go_at_call 36; refine Calls.quiet_of_same (HWQ _)))
          go_wp2_with fail
          go_meet
          exact ⟨false, _, rfl, HO.out.symm, (show Below wd.heap.size wd _ from (by repeat (first | with_reducible exact Below.refl _ _ | with_reducible refine Below.setCell ?_ (by first | omega | (simp; done) | (simp; omega)) _ | with_reducible refine bDrewN ?_ _ | with_reducible refine Below.drew ?_ | with_reducible refine Below.alloc ?_ (by first | omega | (simp; done) | (simp; omega)) _))), Tw.refl _ _ _, fun q => by cases q⟩
        have hc : op = 1 ∨ op = 2 ∨ op = 3 ∨ op = 4 ∨ op = 5 ∨ op = 6 := by omega
        clear hop
        rcases hc with rfl | rfl | rfl | rfl | rfl | rfl
        · obtain ⟨zf2, cf⟩ := HF2.out
          have t0 : wd.cell? ⟨f, 0, none⟩ = some (.func (.func 45) #[] #[]) := cf 0 (by omega)
          clear cf
          have ix : IntKind.i64.wrap ((1 : Int) - 1) = 0 := rfl
          go_region_held_law (fun w' => w'.cell? ⟨wr.heap.size, 0, none⟩ = some (.int .i64 1) ∧ w'.cell? ⟨wr.heap.size, 1, none⟩ = some (.int .i64 N) ∧ w'.cell? ⟨f, 0, none⟩ = some (.func (.func 45) #[] #[])) (first | (refine keepJ3 a0 a1 t0 z1 zf2 nq nr htw ?_; exact (by repeat (first | with_reducible exact Below.refl _ _ | with_reducible refine Below.setCell ?_ (by first | omega | (simp; done) | (simp; omega)) _ | with_reducible refine bDrewN ?_ _ | with_reducible refine Below.drew ?_ | with_reducible refine Below.alloc ?_ (by first | omega | (simp; done) | (simp; omega)) _))) | (refine keepI3 a0 a1 t0 z1 zf2 ?_; exact (by repeat (first | with_reducible exact Below.refl _ _ | with_reducible refine Below.setCell ?_ (by first | omega | (simp; done) | (simp; omega)) _ | with_reducible refine bDrewN ?_ _ | with_reducible refine Below.drew ?_ | with_reducible refine Below.alloc ?_ (by first | omega | (simp; done) | (simp; omega)) _)))) (first
            | (go_at_call 36; refine (within_yes 1 1 6 _ (by omega) (by omega)).mono ?_; rintro e wq ⟨rfl, rfl⟩)
            | (go_at_call 45; refine (may1_any p lo b g (K0 : Int) I K0 K h N _ rfl c1 i0 i1 hr0 hr1 (HT2.out.below (by repeat (first | with_reducible exact Below.refl _ _ | with_reducible refine Below.setCell ?_ (by first | omega | (simp; done) | (simp; omega)) _ | with_reducible refine bDrewN ?_ _ | with_reducible refine Below.drew ?_ | with_reducible refine Below.alloc ?_ (by first | omega | (simp; done) | (simp; omega)) _)))).mono ?_; rintro e w3 ⟨r, rfl, hr, htw, hnx⟩; have HRR : Hid (r = ctB (K0 : Int) I K h 1 N) := hr; clear hr))
          all_goals
            go_wp2_with fail
            go_meet
            case rel => exact ⟨r, _, by first | rfl | (cases r <;> rfl), HRR.out, (show Below wd.heap.size wd _ from (by repeat (first | with_reducible exact Below.refl _ _ | with_reducible refine Below.setCell ?_ (by first | omega | (simp; done) | (simp; omega)) _ | with_reducible refine bDrewN ?_ _ | with_reducible refine Below.drew ?_ | with_reducible refine Below.alloc ?_ (by first | omega | (simp; done) | (simp; omega)) _))), htw, hnx⟩
        · obtain ⟨zf2, cf⟩ := HF2.out
          have t0 : wd.cell? ⟨f, 2, none⟩ = some (.func (.func 47) #[] #[]) := cf 2 (by omega)
          clear cf
          have ix : IntKind.i64.wrap ((2 : Int) - 1) = 1 := rfl
          go_region_held_law (fun w' => w'.cell? ⟨wr.heap.size, 0, none⟩ = some (.int .i64 2) ∧ w'.cell? ⟨wr.heap.size, 1, none⟩ = some (.int .i64 N) ∧ w'.cell? ⟨f, 2, none⟩ = some (.func (.func 47) #[] #[])) (first | (refine keepJ3 a0 a1 t0 z1 zf2 nq nr htw ?_; exact (by repeat (first | with_reducible exact Below.refl _ _ | with_reducible refine Below.setCell ?_ (by first | omega | (simp; done) | (simp; omega)) _ | with_reducible refine bDrewN ?_ _ | with_reducible refine Below.drew ?_ | with_reducible refine Below.alloc ?_ (by first | omega | (simp; done) | (simp; omega)) _))) | (refine keepI3 a0 a1 t0 z1 zf2 ?_; exact (by repeat (first | with_reducible exact Below.refl _ _ | with_reducible refine Below.setCell ?_ (by first | omega | (simp; done) | (simp; omega)) _ | with_reducible refine bDrewN ?_ _ | with_reducible refine Below.drew ?_ | with_reducible refine Below.alloc ?_ (by first | omega | (simp; done) | (simp; omega)) _)))) (first
            | (go_at_call 36; refine (within_yes 2 1 6 _ (by omega) (by omega)).mono ?_; rintro e wq ⟨rfl, rfl⟩)
            | (go_at_call 47; refine (may2_any p lo b g (K0 : Int) I K0 K h N _ rfl c1 i0 i1 hr0 hr1 (HT2.out.below (by repeat (first | with_reducible exact Below.refl _ _ | with_reducible refine Below.setCell ?_ (by first | omega | (simp; done) | (simp; omega)) _ | with_reducible refine bDrewN ?_ _ | with_reducible refine Below.drew ?_ | with_reducible refine Below.alloc ?_ (by first | omega | (simp; done) | (simp; omega)) _)))).mono ?_; rintro e w3 ⟨r, rfl, hr, htw, hnx⟩; have HRR : Hid (r = ctB (K0 : Int) I K h 2 N) := hr; clear hr))
          all_goals
            go_wp2_with fail
            go_meet
            case rel => exact ⟨r, _, by first | rfl | (cases r <;> rfl), HRR.out, (show Below wd.heap.size wd _ from (by repeat (first | with_reducible exact Below.refl _ _ | with_reducible refine Below.setCell ?_ (by first | omega | (simp; done) | (simp; omega)) _ | with_reducible refine bDrewN ?_ _ | with_reducible refine Below.drew ?_ | with_reducible refine Below.alloc ?_ (by first | omega | (simp; done) | (simp; omega)) _))), htw, hnx⟩
        · obtain ⟨zf2, cf⟩ := HF2.out
          have t0 : wd.cell? ⟨f, 4, none⟩ = some (.func (.func 49) #[] #[]) := cf 4 (by omega)
          clear cf
          have ix : IntKind.i64.wrap ((3 : Int) - 1) = 2 := rfl
          go_region_held_law (fun w' => w'.cell? ⟨wr.heap.size, 0, none⟩ = some (.int .i64 3) ∧ w'.cell? ⟨wr.heap.size, 1, none⟩ = some (.int .i64 N) ∧ w'.cell? ⟨f, 4, none⟩ = some (.func (.func 49) #[] #[])) (first | (refine keepJ3 a0 a1 t0 z1 zf2 nq nr htw ?_; exact (by repeat (first | with_reducible exact Below.refl _ _ | with_reducible refine Below.setCell ?_ (by first | omega | (simp; done) | (simp; omega)) _ | with_reducible refine bDrewN ?_ _ | with_reducible refine Below.drew ?_ | with_reducible refine Below.alloc ?_ (by first | omega | (simp; done) | (simp; omega)) _))) | (refine keepI3 a0 a1 t0 z1 zf2 ?_; exact (by repeat (first | with_reducible exact Below.refl _ _ | with_reducible refine Below.setCell ?_ (by first | omega | (simp; done) | (simp; omega)) _ | with_reducible refine bDrewN ?_ _ | with_reducible refine Below.drew ?_ | with_reducible refine Below.alloc ?_ (by first | omega | (simp; done) | (simp; omega)) _)))) (first
            | (go_at_call 36; refine (within_yes 3 1 6 _ (by omega) (by omega)).mono ?_; rintro e wq ⟨rfl, rfl⟩)
            | (go_at_call 49; refine (may3_any p lo b g (K0 : Int) I K0 K h N _ rfl c1 i0 i1 hr0 hr1 (HT2.out.below (by repeat (first | with_reducible exact Below.refl _ _ | with_reducible refine Below.setCell ?_ (by first | omega | (simp; done) | (simp; omega)) _ | with_reducible refine bDrewN ?_ _ | with_reducible refine Below.drew ?_ | with_reducible refine Below.alloc ?_ (by first | omega | (simp; done) | (simp; omega)) _)))).mono ?_; rintro e w3 ⟨r, rfl, hr, htw, hnx⟩; have HRR : Hid (r = ctB (K0 : Int) I K h 3 N) := hr; clear hr))
          all_goals
            go_wp2_with fail
            go_meet
            case rel => exact ⟨r, _, by first | rfl | (cases r <;> rfl), HRR.out, (show Below wd.heap.size wd _ from (by repeat (first | with_reducible exact Below.refl _ _ | with_reducible refine Below.setCell ?_ (by first | omega | (simp; done) | (simp; omega)) _ | with_reducible refine bDrewN ?_ _ | with_reducible refine Below.drew ?_ | with_reducible refine Below.alloc ?_ (by first | omega | (simp; done) | (simp; omega)) _))), htw, hnx⟩
        · obtain ⟨zf2, cf⟩ := HF2.out
          have t0 : wd.cell? ⟨f, 6, none⟩ = some (.func (.func 51) #[] #[]) := cf 6 (by omega)
          clear cf
          have ix : IntKind.i64.wrap ((4 : Int) - 1) = 3 := rfl
          go_region_held_law (fun w' => w'.cell? ⟨wr.heap.size, 0, none⟩ = some (.int .i64 4) ∧ w'.cell? ⟨wr.heap.size, 1, none⟩ = some (.int .i64 N) ∧ w'.cell? ⟨f, 6, none⟩ = some (.func (.func 51) #[] #[])) (first | (refine keepJ3 a0 a1 t0 z1 zf2 nq nr htw ?_; exact (by repeat (first | with_reducible exact Below.refl _ _ | with_reducible refine Below.setCell ?_ (by first | omega | (simp; done) | (simp; omega)) _ | with_reducible refine bDrewN ?_ _ | with_reducible refine Below.drew ?_ | with_reducible refine Below.alloc ?_ (by first | omega | (simp; done) | (simp; omega)) _))) | (refine keepI3 a0 a1 t0 z1 zf2 ?_; exact (by repeat (first | with_reducible exact Below.refl _ _ | with_reducible refine Below.setCell ?_ (by first | omega | (simp; done) | (simp; omega)) _ | with_reducible refine bDrewN ?_ _ | with_reducible refine Below.drew ?_ | with_reducible refine Below.alloc ?_ (by first | omega | (simp; done) | (simp; omega)) _)))) (first
            | (go_at_call 36; refine (within_yes 4 1 6 _ (by omega) (by omega)).mono ?_; rintro e wq ⟨rfl, rfl⟩)
            | (go_at_call 51; refine (may4_any p lo b g (K0 : Int) I K0 K h N _ rfl c1 i0 i1 hr0 hr1 (HT2.out.below (by repeat (first | with_reducible exact Below.refl _ _ | with_reducible refine Below.setCell ?_ (by first | omega | (simp; done) | (simp; omega)) _ | with_reducible refine bDrewN ?_ _ | with_reducible refine Below.drew ?_ | with_reducible refine Below.alloc ?_ (by first | omega | (simp; done) | (simp; omega)) _)))).mono ?_; rintro e w3 ⟨r, rfl, hr, htw, hnx⟩; have HRR : Hid (r = ctB (K0 : Int) I K h 4 N) := hr; clear hr))
          all_goals
            go_wp2_with fail
            go_meet
            case rel => exact ⟨r, _, by first | rfl | (cases r <;> rfl), HRR.out, (show Below wd.heap.size wd _ from (by repeat (first | with_reducible exact Below.refl _ _ | with_reducible refine Below.setCell ?_ (by first | omega | (simp; done) | (simp; omega)) _ | with_reducible refine bDrewN ?_ _ | with_reducible refine Below.drew ?_ | with_reducible refine Below.alloc ?_ (by first | omega | (simp; done) | (simp; omega)) _))), htw, hnx⟩
        · obtain ⟨zf2, cf⟩ := HF2.out
          have t0 : wd.cell? ⟨f, 8, none⟩ = some (.func (.func 53) #[] #[]) := cf 8 (by omega)
          clear cf
          have ix : IntKind.i64.wrap ((5 : Int) - 1) = 4 := rfl
          go_region_held_law (fun w' => w'.cell? ⟨wr.heap.size, 0, none⟩ = some (.int .i64 5) ∧ w'.cell? ⟨wr.heap.size, 1, none⟩ = some (.int .i64 N) ∧ w'.cell? ⟨f, 8, none⟩ = some (.func (.func 53) #[] #[])) (first | (refine keepJ3 a0 a1 t0 z1 zf2 nq nr htw ?_; exact (by repeat (first | with_reducible exact Below.refl _ _ | with_reducible refine Below.setCell ?_ (by first | omega | (simp; done) | (simp; omega)) _ | with_reducible refine bDrewN ?_ _ | with_reducible refine Below.drew ?_ | with_reducible refine Below.alloc ?_ (by first | omega | (simp; done) | (simp; omega)) _))) | (refine keepI3 a0 a1 t0 z1 zf2 ?_; exact (by repeat (first | with_reducible exact Below.refl _ _ | with_reducible refine Below.setCell ?_ (by first | omega | (simp; done) | (simp; omega)) _ | with_reducible refine bDrewN ?_ _ | with_reducible refine Below.drew ?_ | with_reducible refine Below.alloc ?_ (by first | omega | (simp; done) | (simp; omega)) _)))) (first
            | (go_at_call 36; refine (within_yes 5 1 6 _ (by omega) (by omega)).mono ?_; rintro e wq ⟨rfl, rfl⟩)
            | (go_at_call 53; refine (may5_any p lo b g (K0 : Int) I K0 K h N _ rfl c1 i0 i1 hr0 hr1 (HT2.out.below (by repeat (first | with_reducible exact Below.refl _ _ | with_reducible refine Below.setCell ?_ (by first | omega | (simp; done) | (simp; omega)) _ | with_reducible refine bDrewN ?_ _ | with_reducible refine Below.drew ?_ | with_reducible refine Below.alloc ?_ (by first | omega | (simp; done) | (simp; omega)) _)))).mono ?_; rintro e w3 ⟨r, rfl, hr, htw, hnx⟩; have HRR : Hid (r = ctB (K0 : Int) I K h 5 N) := hr; clear hr))
          all_goals
            go_wp2_with fail
            go_meet
            case rel => exact ⟨r, _, by first | rfl | (cases r <;> rfl), HRR.out, (show Below wd.heap.size wd _ from (by repeat (first | with_reducible exact Below.refl _ _ | with_reducible refine Below.setCell ?_ (by first | omega | (simp; done) | (simp; omega)) _ | with_reducible refine bDrewN ?_ _ | with_reducible refine Below.drew ?_ | with_reducible refine Below.alloc ?_ (by first | omega | (simp; done) | (simp; omega)) _))), htw, hnx⟩
        · obtain ⟨zf2, cf⟩ := HF2.out
          have t0 : wd.cell? ⟨f, 10, none⟩ = some (.func (.func 55) #[] #[]) := cf 10 (by omega)
          clear cf
          have ix : IntKind.i64.wrap ((6 : Int) - 1) = 5 := rfl
          go_region_held_law (fun w' => w'.cell? ⟨wr.heap.size, 0, none⟩ = some (.int .i64 6) ∧ w'.cell? ⟨wr.heap.size, 1, none⟩ = some (.int .i64 N) ∧ w'.cell? ⟨f, 10, none⟩ = some (.func (.func 55) #[] #[])) (first | (refine keepJ3 a0 a1 t0 z1 zf2 nq nr htw ?_; exact (by repeat (first | with_reducible exact Below.refl _ _ | with_reducible refine Below.setCell ?_ (by first | omega | (simp; done) | (simp; omega)) _ | with_reducible refine bDrewN ?_ _ | with_reducible refine Below.drew ?_ | with_reducible refine Below.alloc ?_ (by first | omega | (simp; done) | (simp; omega)) _))) | (refine keepI3 a0 a1 t0 z1 zf2 ?_; exact (by repeat (first | with_reducible exact Below.refl _ _ | with_reducible refine Below.setCell ?_ (by first | omega | (simp; done) | (simp; omega)) _ | with_reducible refine bDrewN ?_ _ | with_reducible refine Below.drew ?_ | with_reducible refine Below.alloc ?_ (by first | omega | (simp; done) | (simp; omega)) _)))) (first
            | (go_at_call 36; refine (within_yes 6 1 6 _ (by omega) (by omega)).mono ?_; rintro e wq ⟨rfl, rfl⟩)
            | (go_at_call 55; refine (may6_any p lo b g (K0 : Int) I K0 K h N _ rfl c1 i0 i1 hr0 hr1 (HT2.out.below (by repeat (first | with_reducible exact Below.refl _ _ | with_reducible refine Below.setCell ?_ (by first | omega | (simp; done) | (simp; omega)) _ | with_reducible refine bDrewN ?_ _ | with_reducible refine Below.drew ?_ | with_reducible refine Below.alloc ?_ (by first | omega | (simp; done) | (simp; omega)) _)))).mono ?_; rintro e w3 ⟨r, rfl, hr, htw, hnx⟩; have HRR : Hid (r = ctB (K0 : Int) I K h 6 N) := hr; clear hr))
          all_goals
            go_wp2_with fail
            go_meet
            case rel => exact ⟨r, _, by first | rfl | (cases r <;> rfl), HRR.out, (show Below wd.heap.size wd _ from (by repeat (first | with_reducible exact Below.refl _ _ | with_reducible refine Below.setCell ?_ (by first | omega | (simp; done) | (simp; omega)) _ | with_reducible refine bDrewN ?_ _ | with_reducible refine Below.drew ?_ | with_reducible refine Below.alloc ?_ (by first | omega | (simp; done) | (simp; omega)) _))), htw, hnx⟩
      rename World => wc
      obtain ⟨r, w0, rfl, hr, hw0, htw, hnext⟩ := hcut
      have HW0 : Hid (Below wd.heap.size wd w0) := hw0
      have HTW : Hid (Tw p g w0 wc) := htw
      clear hw0 htw
      have HN : Hid (r = true → TrAt p lo b g wc (K0 : Int) I K0 (nxK K op N) (nxH h op N)) := hnext
      have zpd : Hid (p < wd.heap.size) := HT2.out.1
      have HW3 : Hid (Below w1.heap.size w1 w0) := HW2.out.trans (HW0.out.mono HW2.out.size)
      have HWc : Hid (Below w1.heap.size w1 wc) := HW3.out.trans (HTW.out.below hp hg HW3.out.size)
      have HFc : Hid (ItAt wc f) := (HF2.out.below HW0.out).same HTW.out.2.2.2.1 (HTW.out.2.2.2.2 f (HF2.out.below HW0.out).1 (by omega) (by omega))
      have BX : Below w.heap.size w wc := HBB.out.trans (HWc.out.mono sz12)
      clear hnext HT2 HF2 HW2 HW0 HTW HW3
      cases r
      · have HO : Hid (codeB n V (K0 : Int) I = false) := code_no h1 (by rw [HCT.out]; exact hr.symm)
        go_wp2
        go_ret
        exact ⟨ret_bool HO.out.symm, BX⟩
      · have HJ : Hid (coJ (K0 : Int) I V k = true) := by show _ = _; rw [HCT.out]; exact hr.symm
        clear hr
        go_wp2
        go_roundw
        case rel => exact ⟨k + 1, _, _, by omega, by go_num, HNX.out, ballC HA.out HJ.out, HN.out rfl, HFc.out, HWc.out⟩
        case measure => first | (simp [intOf]; done) | (simp [intOf]; omega)
    · obtain rfl : k = n := by omega
      have HO : Hid (codeB k V (K0 : Int) I = decide (h = 0)) := by show _ = _; rw [code_end (by omega) HC.out HI.out HA.out, HST.out]
      obtain ⟨z, -, ⟨-, -, -, -, d4⟩, -⟩ := HT.out
      have BX := HW.out
      go_wp2
      go_ret
      exact ⟨ret_bool (by rw [HO.out, Bool.beq_eq_decide_eq]), BX⟩
end Go.Proofs.Ytdidgbibbkhnhaa
