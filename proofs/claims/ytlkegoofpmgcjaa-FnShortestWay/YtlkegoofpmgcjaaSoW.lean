/-
What is proved: the shortest routes of all steps, worked back from the last one by a range over a function.
-/
import Derived.Test.YtlkegoofpmgcjaaSoC
import Derived.Test.YtlkegoofpmgcjaaBnX
import Derived.Deep.OwnRows
import Derived.Deep.RegionHeldLaw
namespace Go.Proofs.Ytlkegoofpmgcjaa
set_option maxRecDepth 40000
open Go.ChangeShapes Go.WideShapes Go.ChangeAt Go.RowKit
set_option linter.unusedVariables false
set_option linter.unusedSimpArgs false

open Go.Shelf
attribute [local go_sem] Oper.semAt_some
theorem make_rt (n : Nat) (hn : n ≤ 1048576) (w : World) : (Instr.makeSlice 50 (.int .i64 (n : Int)) (.int .i64 (n : Int))).run Try.prog w = .ok (.slice (some ⟨w.heap.size, 0, none⟩) n n) (w.alloc (.cells (madeCells #[.bool false, .slice none 0 0] (n * 2)) 53)) := by
  have hinfo : (Try.prog.info? 53).map (fun i => (i.zero, i.size, decide (i.bytes ≤ 80))) = some (some (.agg #[.bool false, .slice none 0 0]), 2, true) := by kernel_rfl
  obtain ⟨i, hi, hzz⟩ := Option.map_eq_some_iff.1 hinfo
  simp only [Prod.mk.injEq, decide_eq_true_eq] at hzz
  obtain ⟨hz, hs, hb⟩ := hzz
  have hl : n * i.bytes ≤ 1048576 * 80 := Nat.mul_le_mul hn hb
  have hr := run_make (P := Try.prog) w 50 53 i _ Try.underlying50 hi hz .i64 .i64 n n (by omega) (Int.le_refl _) (by rw [← Int.natCast_mul]; have := Nat.mul_comm n i.bytes; omega) (by omega)
  simp only [Int.toNat_natCast, hs] at hr
  exact hr
theorem madeRt (n j : Nat) (hj : j < n) : (madeCells #[.bool false, .slice none 0 0] (n * 2))[j * 2]? = some (.bool false) ∧ (madeCells #[.bool false, .slice none 0 0] (n * 2))[j * 2 + 1]? = some (.slice none 0 0) := by
  constructor
  · have hj : j * 2 < n * 2 := by omega
    simp only [madeCells, Array.getElem?_map, Array.getElem?_range, hj, if_true, Option.map_some]
    have h : (j * 2) % 2 = 0 := by omega
    show some ((#[.bool false, .slice none 0 0] : Array Value)[(j * 2) % 2]!) = _
    rw [h]; rfl
  · have hj : j * 2 + 1 < n * 2 := by omega
    simp only [madeCells, Array.getElem?_map, Array.getElem?_range, hj, if_true, Option.map_some]
    have h : (j * 2 + 1) % 2 = 1 := by omega
    show some ((#[.bool false, .slice none 0 0] : Array Value)[(j * 2 + 1) % 2]!) = _
    rw [h]; rfl
def TabR (n0 bf : Nat) (W0 : World) (n : Nat) (T : Nat → Rte) (W : World) : Prop := KpB n0 bf W0 W ∧ (∀ j, j < n → ∃ t c, W.cell? ⟨bf, j * 2, none⟩ = some (.bool (T j).1) ∧ W.cell? ⟨bf, j * 2 + 1, none⟩ = some (.slice t (T j).2.length c) ∧ LstF n0 W t c (T j).2) ∧ (∀ j, W.frozen? ⟨bf, j, none⟩ = false) ∧ n0 ≤ W.heap.size
theorem TabR.own {n0 bf n : Nat} {W0 : World} {β : Type} (f : β → Nat → Rte) (hf : bf < n0) : OwnFrom n0 (fun (s : β) W => TabR n0 bf W0 n (f s) W) := fun s W W' row hs hg hr => by
  have hb : ∀ k, k < n0 → W'.heap[k]? = W.heap[k]? := fun k hk => hg.block k (Nat.lt_of_lt_of_le hk hs.2.2.2) (fun e => by have := (hr k e.symm).1; omega)
  refine ⟨⟨Nat.le_trans hs.1.1 hg.size, fun k hk hn => (hb k hk).trans (hs.1.2 k hk hn)⟩, fun j hj => ?_, fun j => (World.frozen?_of_block (a := ⟨bf, j, none⟩) (hb bf hf)).trans (hs.2.2.1 j), Nat.le_trans hs.2.2.2 hg.size⟩
  obtain ⟨t, c, h1, h3, h2⟩ := hs.2.1 j hj
  refine ⟨t, c, (World.cell?_of_block (a := ⟨bf, j * 2, none⟩) (hb bf hf)).trans h1, (World.cell?_of_block (a := ⟨bf, j * 2 + 1, none⟩) (hb bf hf)).trans h3, ?_⟩
  rcases h2 with h2 | ⟨h0, g, e, hg0, hgz, hc, hfz⟩
  · exact .inl h2
  · have h00 : 0 < (f s j).2.length := List.length_pos_iff.2 h0
    exact .inr ⟨h0, g, e, hg0, Nat.lt_of_lt_of_le hgz hg.size, fun i hi => cell_kept (hc i hi) hg (fun r e => (hr r e).2), fun i => (World.frozen?_of_block (a := ⟨g, i, none⟩) (hg.block g hgz (fun e => by
      obtain ⟨o, ho, hcell⟩ := (hr g e.symm).2
      have := hc 0 h00
      simp only [World.cell?, ho] at this
      cases o <;> simp [Obj.isCells] at hcell <;> simp at this))).trans (hfz i)⟩
theorem TabR.below {n0 bf n : Nat} {W0 W W' : World} {T : Nat → Rte} (h : TabR n0 bf W0 n T W) (hb : Below W.heap.size W W') (hf : bf < n0) : TabR n0 bf W0 n T W' := by
  have hz : bf < W.heap.size := Nat.lt_of_lt_of_le hf h.2.2.2
  refine ⟨h.1.trans (KpB.below (hb.mono h.2.2.2)), fun j hj => ?_, fun j => (hb.frozen (p := ⟨bf, j, none⟩) hz).trans (h.2.2.1 j), Nat.le_trans h.2.2.2 hb.size⟩
  obtain ⟨t, c, h1, h3, h2⟩ := h.2.1 j hj
  exact ⟨t, c, (hb.cell (p := ⟨bf, j * 2, none⟩) hz).trans h1, (hb.cell (p := ⟨bf, j * 2 + 1, none⟩) hz).trans h3, h2.below hb⟩
theorem TabR.set {n0 bf n p : Nat} {W0 W : World} {T : Nat → Rte} (h : TabR n0 bf W0 n T W) (hf : bf < n0) (hp : p < n) {t : Option Addr} {c : Nat} {r1 : Bool} {L : List Int} (hL : LstF n0 W t c L) : TabR n0 bf W0 n (updT T p (r1, L)) ((W.setCell ⟨bf, p * 2, none⟩ (.bool r1)).setCell ⟨bf, p * 2 + 1, none⟩ (.slice t L.length c)) := by
  have bs : Beside bf W ((W.setCell ⟨bf, p * 2, none⟩ (.bool r1)).setCell ⟨bf, p * 2 + 1, none⟩ (.slice t L.length c)) := (Beside.setCell bf _ _ _).trans (Beside.setCell bf _ _ _)
  refine ⟨h.1.trans (KpB.beside bs h.2.2.2), fun j hj => ?_, fun j => by rw [World.frozen?_setCell, World.frozen?_setCell]; exact h.2.2.1 j, Nat.le_trans h.2.2.2 bs.2.2.2.1⟩
  obtain ⟨t', c', h1, h3, h2⟩ := h.2.1 j hj
  unfold updT
  by_cases e : j = p
  · subst e
    rw [if_pos rfl]
    refine ⟨t, c, (World.cell?_setCell_other _ _ _ _ (by intro q; injection q with _ q2 _; omega)).trans (World.cell?_setCell_same' _ _ _ (by rw [h1]; rfl)), World.cell?_setCell_same' _ _ _ ?_, (hL.set hf).set hf⟩
    rw [World.cell?_setCell_other _ _ _ _ (by intro q; injection q with _ q2 _; omega), h3]
    rfl
  · rw [if_neg e]
    exact ⟨t', c', ((World.cell?_setCell_other _ _ _ _ (by intro q; injection q with _ q2 _; omega)).trans (World.cell?_setCell_other _ _ _ _ (by intro q; injection q with _ q2 _; omega))).trans h1, ((World.cell?_setCell_other _ _ _ _ (by intro q; injection q with _ q2 _; omega)).trans (World.cell?_setCell_other _ _ _ _ (by intro q; injection q with _ q2 _; omega))).trans h3, (h2.set hf).set hf⟩
set_option maxRecDepth 20000 in
set_option maxHeartbeats 4000000 in
theorem foundAtR (n0 bm bg bf n pm : Nat) (md : Int) (T : Nat → Rte) (x : Int) (w : World) (hn : (n : Int) ≤ 40) (hn0 : n0 ≤ w.heap.size) (hpm : pm < w.heap.size) (hm : w.cell? ⟨pm, 0, none⟩ = some (.int .i64 md)) (h0 : w.cell? ⟨bm, 0, none⟩ = some (.func (.func 33) #[] #[.pointer (some ⟨pm, 0, none⟩)])) (h1 : w.cell? ⟨bg, 0, none⟩ = some (.slice (some ⟨bf, 0, none⟩) n n)) (h2 : ∀ j, j < n → ∃ t c, w.cell? ⟨bf, j * 2, none⟩ = some (.bool (T j).1) ∧ w.cell? ⟨bf, j * 2 + 1, none⟩ = some (.slice t (T j).2.length c) ∧ LstF n0 w t c (T j).2) (hx : (modB x = true) ∨ (modB x = false ∧ 0 ≤ x ∧ x < n)) :
    Calls Try.prog 55 #[.int .i64 x, .pointer (some ⟨bm, 0, none⟩), .pointer (some ⟨bg, 0, none⟩)] w fun e w' => RtPost (gR md T x) n0 w e w' := by
  have zm : bm < w.heap.size := cell_lt h0
  have zg : bg < w.heap.size := cell_lt h1
  rcases hx with hx | ⟨hx, x0, x1⟩
  · have HG : Hid (gR md T x = (x == md, [])) := by show _ = _; unfold gR; rw [if_pos hx]
    clear h1 h2
    go_enter Try.func55, Try.ntmps55
    go_wp2_with fail
    refine (isMode_any x _).mono ?_
    rintro e w1 ⟨rfl, rfl⟩
    rw [hx]
    go_wp2_with fail
    refine (ofModeR x md pm _ (by simp; omega) (by simpa (maxDischargeDepth := 12) [go_sem, hpm, Nat.ne_of_lt hpm] using hm)).mono ?_
    rintro e w2 ⟨rfl, b2⟩
    have d1 : w2.cell? ⟨w.heap.size, 0, none⟩ = some (.bool false) := (b2.cell (p := ⟨w.heap.size, 0, none⟩) (by simp)).trans (by simp [go_sem])
    have d2 : w2.cell? ⟨w.heap.size, 1, none⟩ = some (.slice none 0 0) := (b2.cell (p := ⟨w.heap.size, 1, none⟩) (by simp)).trans (by simp [go_sem])
    have d4 : w2.frozen? ⟨w.heap.size, 0, none⟩ = false := (b2.frozen (p := ⟨w.heap.size, 0, none⟩) (by simp)).trans (by simp [go_sem])
    have d5 : w2.frozen? ⟨w.heap.size, 1, none⟩ = false := (b2.frozen (p := ⟨w.heap.size, 1, none⟩) (by simp)).trans (by simp [go_sem])
    have HB : Hid (Below w.heap.size w w2) := (below0 w _).trans (b2.mono (by simp))
    clear b2 hm h0
    obtain ⟨bb, hbb⟩ : ∃ b, (x == md) = b := ⟨_, rfl⟩
    rw [hbb] at HG ⊢
    go_wp2
    refine bodyPost_ret (v := .agg #[.bool bb, .slice none 0 0]) (by simp [results, Try.results55, go_sem, d1, d2]) rfl ?_
    unfold RtPost
    rw [HG.out]
    exact ⟨none, 0, rfl, .inl ⟨rfl, rfl, rfl⟩, (HB.out.trans ((Beside.setCell w.heap.size _ 0 _).below (Nat.le_refl _) HB.out.size)).trans ((Beside.setCell w.heap.size _ 1 _).below (Nat.le_refl _) (by simpa using HB.out.size))⟩
  · obtain ⟨k, rfl⟩ : ∃ k : Nat, x = (k : Int) := ⟨x.toNat, by omega⟩
    have hg : gR md T (k : Int) = T k := by unfold gR; rw [if_neg (by rw [hx]; simp)]; simp
    have HG : Hid (gR md T (k : Int) = T k) := hg
    obtain ⟨t, c, h3, h5, h4⟩ := h2 k (by omega)
    obtain ⟨r1, hr1⟩ : ∃ r, (T k).1 = r := ⟨_, rfl⟩
    obtain ⟨r2, hr2⟩ : ∃ r, (T k).2 = r := ⟨_, rfl⟩
    rw [hr1] at h3
    rw [hr2] at h4 h5
    have HT : Hid (T k = (r1, r2)) := by show _ = _; rw [← hr1, ← hr2]
    have zf : bf < w.heap.size := cell_lt h3
    have HF : Hid (LstF n0 w t c r2) := h4
    have nem : ¬ w.heap.size = bf := by omega
    have neg_ : ¬ w.heap.size = bg := by omega
    clear h2 hg h4 hr1 hr2 hm h0
    go_enter Try.func55, Try.ntmps55
    go_wp2_with fail
    refine (isMode_any (k : Int) _).mono ?_
    rintro e w1 ⟨rfl, rfl⟩
    rw [hx]
    go_wp2
    refine bodyPost_ret (v := .agg #[.bool r1, .slice t r2.length c]) (by simp [results, Try.results55, go_sem]) rfl ?_
    unfold RtPost
    rw [HG.out, HT.out]
    exact ⟨t, c, rfl, HF.out.below (by repeat (first | with_reducible exact Below.refl _ _ | with_reducible refine Below.setCell ?_ (by first | omega | (simp; done) | (simp; omega)) _ | with_reducible refine bDrewN ?_ _ | with_reducible refine Below.drew ?_ | with_reducible refine Below.alloc ?_ (by first | omega | (simp; done) | (simp; omega)) _)), (by repeat (first | with_reducible exact Below.refl _ _ | with_reducible refine Below.setCell ?_ (by first | omega | (simp; done) | (simp; omega)) _ | with_reducible refine bDrewN ?_ _ | with_reducible refine Below.drew ?_ | with_reducible refine Below.alloc ?_ (by first | omega | (simp; done) | (simp; omega)) _))⟩
set_option maxRecDepth 20000 in
set_option maxHeartbeats 8000000 in
theorem workedR_any (s : Option Addr) (n c : Nat) (V : Nat → Int) (md : Int) (pm : Nat) (w : World) (hn : 0 < n) (h40 : (n : Int) ≤ 40) (hp : planB n V = true) (hpm : pm < w.heap.size) (hm : w.cell? ⟨pm, 0, none⟩ = some (.int .i64 md)) (HR : Hid (RowI w s (n * 5) V)) :
    Calls Try.prog 32 #[.slice s n c, (.func (.func 33) #[] #[.pointer (some ⟨pm, 0, none⟩)]), (.func (.func 34) #[] #[])] w fun e w' => ∃ bf, e = .returned (.slice (some ⟨bf, 0, none⟩) n n) ∧ (∀ j, j < n → ∃ t c, w'.cell? ⟨bf, j * 2, none⟩ = some (.bool (rtR V md (pls (dA n hn n)) j).1) ∧ w'.cell? ⟨bf, j * 2 + 1, none⟩ = some (.slice t (rtR V md (pls (dA n hn n)) j).2.length c) ∧ LstF w.heap.size w' t c (rtR V md (pls (dA n hn n)) j).2) ∧ Below w.heap.size w w' := by
  have hmk := make_rt n (by omega)
  have sto := store_fnB
  have sto2 := store_slB
  refine (callsIn_wide (n := 3)).1 ?_
  refine callsIn_of_wp_marks Try.func32 rfl trivial ?_ rfl
  simp only [Try.ntmps32, List.size_toArray, List.length_cons, List.length_nil, Nat.reduceAdd, Nat.reduceSub, Array.replicate_succ, Array.replicate_zero, List.push_toArray, List.append_toArray, List.nil_append, List.cons_append]
  gi_wp2_with (refine ⟨trivial, ?_⟩; gi_at_call 56; refine (callsIn_wide.2 (fromLast_any _ _ _ _)).mono ?_; rintro e w' ⟨rfl, rfl⟩)
  obtain ⟨W0, hW0⟩ : ∃ z, z = ((((((w.alloc (.cells #[(.func (.func 33) #[] #[.pointer (some ⟨pm, 0, none⟩)])] 54)).alloc (.cells #[(.func (.func 34) #[] #[])] 56)).alloc (.cells (madeCells #[.bool false, .slice none 0 0] (n * 2)) 53)).alloc (.cells #[.slice (some ⟨w.heap.size + 1 + 1, 0, none⟩) n n] 50)).alloc (.cells #[.func (.func 55) #[] #[.pointer (some ⟨w.heap.size, 0, none⟩), .pointer (some ⟨w.heap.size + 1 + 1 + 1, 0, none⟩)]] 54)).alloc (.cells #[.slice s n c] 24)) := ⟨_, rfl⟩
  rw [← hW0]
  have B0 : Below w.heap.size w W0 := by rw [hW0]; exact (by repeat (first | with_reducible exact Below.refl _ _ | with_reducible refine Below.setCell ?_ (by first | omega | (simp; done) | (simp; omega)) _ | with_reducible refine bDrewN ?_ _ | with_reducible refine Below.drew ?_ | with_reducible refine Below.alloc ?_ (by first | omega | (simp; done) | (simp; omega)) _))
  have c4 : W0.cell? ⟨w.heap.size, 0, none⟩ = some (.func (.func 33) #[] #[.pointer (some ⟨pm, 0, none⟩)]) := by rw [hW0]; simp [go_sem]
  have c5 : W0.cell? ⟨w.heap.size + 1, 0, none⟩ = some (.func (.func 34) #[] #[]) := by rw [hW0]; simp (maxDischargeDepth := 12) [go_sem]
  have c7 : W0.cell? ⟨w.heap.size + 1 + 1 + 1, 0, none⟩ = some (.slice (some ⟨w.heap.size + 1 + 1, 0, none⟩) n n) := by rw [hW0]; simp (maxDischargeDepth := 12) [go_sem]
  have c8 : W0.cell? ⟨w.heap.size + 1 + 1 + 1 + 1, 0, none⟩ = some (.func (.func 55) #[] #[.pointer (some ⟨w.heap.size, 0, none⟩), .pointer (some ⟨w.heap.size + 1 + 1 + 1, 0, none⟩)]) := by rw [hW0]; simp (maxDischargeDepth := 12) [go_sem]
  have cp : W0.cell? ⟨w.heap.size + 1 + 1 + 1 + 1 + 1, 0, none⟩ = some (.slice s n c) := by rw [hW0]; simp (maxDischargeDepth := 12) [go_sem]
  have cf : ∀ j, j < n → W0.cell? ⟨w.heap.size + 1 + 1, j * 2, none⟩ = some (.bool false) ∧ W0.cell? ⟨w.heap.size + 1 + 1, j * 2 + 1, none⟩ = some (.slice none 0 0) := fun j hj => by
    obtain ⟨m0, m1⟩ := madeRt n j hj
    rw [hW0]
    exact ⟨by simpa (maxDischargeDepth := 12) [go_sem] using m0, by simpa (maxDischargeDepth := 12) [go_sem] using m1⟩
  have ff : ∀ j, W0.frozen? ⟨w.heap.size + 1 + 1, j, none⟩ = false := fun j => by
    rw [hW0]
    simp (maxDischargeDepth := 12) [go_sem]
  have sz : W0.heap.size = w.heap.size + 6 := by rw [hW0]; simp
  have cm := (B0.cell (p := ⟨pm, 0, none⟩) hpm).trans hm
  obtain ⟨bp, hbp⟩ : ∃ b, b = w.heap.size + 1 + 1 + 1 + 1 + 1 := ⟨_, rfl⟩
  obtain ⟨b8, hb8⟩ : ∃ b, b = w.heap.size + 1 + 1 + 1 + 1 := ⟨_, rfl⟩
  obtain ⟨b7, hb7⟩ : ∃ b, b = w.heap.size + 1 + 1 + 1 := ⟨_, rfl⟩
  obtain ⟨bf, hbf⟩ : ∃ b, b = w.heap.size + 1 + 1 := ⟨_, rfl⟩
  obtain ⟨b5, hb5⟩ : ∃ b, b = w.heap.size + 1 := ⟨_, rfl⟩
  obtain ⟨b4, hb4⟩ : ∃ b, b = w.heap.size := ⟨_, rfl⟩
  rw [← hbp] at cp
  rw [← hb8, ← hb7, ← hb4] at c8
  rw [← hb7, ← hbf] at c7
  rw [← hbf] at cf ff
  rw [← hb5] at c5
  rw [← hb4] at c4
  rw [← hbp, ← hb8, ← hb7, ← hbf, ← hb5]
  rw [show w.heap.size = b4 from hb4.symm]
  obtain ⟨n0, hn0⟩ : ∃ z, z = W0.heap.size := ⟨_, rfl⟩
  have hPK : PlK n0 bf W0 s n V := by
    obtain ⟨b, o, rfl, hbz, -⟩ := HR.out 0 (by omega)
    refine ⟨b, o, rfl, by omega, by omega, fun j hj => ?_⟩
    obtain ⟨b', o', e, hz, hc⟩ := HR.out j hj
    cases e
    exact (B0.cell (p := ⟨b, o + j, none⟩) hz).trans hc
  have HB0 : Hid (Below w.heap.size w W0) := B0
  have HT0 : Hid (TabR n0 bf W0 n (rtR V md (pls ([] : List (Pce n)))) W0) := ⟨KpB.refl _ _ _, fun j hj => ⟨none, 0, (cf j hj).1, (cf j hj).2, .inl ⟨rfl, rfl, rfl⟩⟩, ff, by omega⟩
  have C4 : Hid (W0.cell? ⟨b4, 0, none⟩ = some (.func (.func 33) #[] #[.pointer (some ⟨pm, 0, none⟩)])) := c4
  have C5 : Hid (W0.cell? ⟨b5, 0, none⟩ = some (.func (.func 34) #[] #[])) := c5
  have C7 : Hid (W0.cell? ⟨b7, 0, none⟩ = some (.slice (some ⟨bf, 0, none⟩) n n)) := c7
  have C8 : Hid (W0.cell? ⟨b8, 0, none⟩ = some (.func (.func 55) #[] #[.pointer (some ⟨b4, 0, none⟩), .pointer (some ⟨b7, 0, none⟩)])) := c8
  have CM : Hid (W0.cell? ⟨pm, 0, none⟩ = some (.int .i64 md)) := cm
  have l4 : b4 < n0 ∧ b4 ≠ bf := by omega
  have l5 : b5 < n0 ∧ b5 ≠ bf := by omega
  have l7 : b7 < n0 ∧ b7 ≠ bf := by omega
  have l8 : b8 < n0 ∧ b8 ≠ bf := by omega
  have lm : pm < n0 ∧ pm ≠ bf := by omega
  have lf : bf < n0 := by omega
  have lb : w.heap.size ≤ bf := by omega
  have ln : w.heap.size ≤ n0 := by omega
  have HSQ := fromLast_stops (3 - 1) n V n0 bf bp s c W0 (by omega) hn h40 (by omega) (by omega) (by omega) cp hPK
  rw [hn0] at HSQ
  clear hW0 hbp hb8 hb7 hbf hb5 hb4 c4 c5 c7 c8 cf ff hPK cp hmk sto sto2 cm hm
  refine wpIn_rangeFunc_ownH rfl (by omega) (gf := 65) (lb := #[.pointer (some ⟨bp, 0, none⟩)]) rfl trivial (enters_of Try.func65 (by kernel_rfl) rfl) HSQ (fun h g => h.trans g) (fun W l o o' hl h1 h2 h3 => KpB.put (Nat.le_refl _) W l o o' hl h1 h2 h3) (Below.refl _ _) (fun _ => rfl)
    (fun pre W => TabR n0 bf W0 n (rtR V md (pls pre)) W ∧ Below w.heap.size w W)
    (fun _ _ _ => False)
    (OwnFrom.and (by rw [← hn0]; exact TabR.own (fun pre => rtR V md (pls pre)) lf) (ownFrom_below (Nat.le_refl _) (by omega)))
    (fun _ _ _ _ _ hs _ _ => hs)
    ⟨HT0.out, HB0.out⟩
    (fun x a' W => ∃ Bx, n0 ≤ Bx ∧ (W.cell? ⟨Bx, 3, none⟩ = some (.int .i64 (V (x.1 * 5 + 3))) ∧ W.cell? ⟨Bx, 4, none⟩ = some (.int .i64 (V (x.1 * 5 + 4)))) ∧ a' = { tmps := #[.slice s n c, (.func (.func 33) #[] #[.pointer (some ⟨pm, 0, none⟩)]), (.func (.func 34) #[] #[]), undef, .pointer (some ⟨b4, 0, none⟩), .pointer (some ⟨b5, 0, none⟩), .slice none 0 0, .pointer (some ⟨b7, 0, none⟩), .pointer (some ⟨b8, 0, none⟩), .int .i64 (x.1 : Int), .pointer (some ⟨Bx, 0, none⟩), .slice s n c, .int .i64 (n : Int), .slice (some ⟨bf, 0, none⟩) n n, (.func (.func 55) #[] #[.pointer (some ⟨b4, 0, none⟩), .pointer (some ⟨b7, 0, none⟩)]), .slice s n c, .func (.func 65) #[] #[.pointer (some ⟨bp, 0, none⟩)], .int .i64 (x.1 : Int), .agg #[.int .i64 (V (x.1 * 5)), .int .i64 (V (x.1 * 5 + 1)), .int .i64 (V (x.1 * 5 + 2)), .int .i64 (V (x.1 * 5 + 3)), .int .i64 (V (x.1 * 5 + 4))], undef, undef, undef, undef, undef, undef, undef, undef, undef, undef, undef, undef, undef, undef, undef], defers := [] })
    (fun x a' => Own.from (fun _ A B row hs hg hr => by
      obtain ⟨Bx, h0, ⟨h1, h2⟩, h3⟩ := hs
      exact ⟨Bx, h0, ⟨cell_kept h1 hg hr, cell_kept h2 hg hr⟩, h3⟩) _)
    ?assign ?body ?done ?stop
  case assign =>
    rintro l pre x W K ⟨hT, hB⟩ hK
    dsimp only [encS]
    gi_wp2
    refine hK _ _ (keepsFrom_below (below0 _ _)) (KpB.below ((below0 W _).mono (by have := hT.2.2.2; omega))) ⟨hT.below (below0 _ _) lf, hB.trans ((below0 W _).mono hB.size)⟩ ⟨W.heap.size, hT.2.2.2, ⟨by simp [go_sem], by simp [go_sem]⟩, rfl⟩
  case body =>
    rintro l pre x a' W hl ⟨rr, hrr⟩ ⟨hT, hB⟩ ⟨Bx, hBx, ⟨x3, x4⟩, rfl⟩ hlt
    have nbx : Bx ≠ bf := by omega
    have zW : n0 ≤ W.heap.size := hT.2.2.2
    obtain ⟨p, hpn⟩ := x
    have HTB : Hid (TabR n0 bf W0 n (rtR V md (pls pre)) W) := hT
    have HB : Hid (Below w.heap.size w W) := hB
    have hpi : (p : Int) < (n : Int) := by omega
    have hpn2 : (p : Int) ≤ 40 := by omega
    have hKW := hT.1
    have c5 := (hKW.cell (p := ⟨b5, 0, none⟩) l5.1 l5.2).trans C5.out
    have c7 := (hKW.cell (p := ⟨b7, 0, none⟩) l7.1 l7.2).trans C7.out
    have c8 := (hKW.cell (p := ⟨b8, 0, none⟩) l8.1 l8.2).trans C8.out
    have to3 := pln_to hp hpn 3 (.inl rfl)
    have to4 := pln_to hp hpn 4 (.inr rfl)
    have hpl : (pls pre).length ≤ 48 := by rw [pls_len]; omega
    have hg3 := Nat.le_trans (gR_len (md := md) (rt_good V md (pls pre)) (V (p * 5 + 3))) hpl
    have hg4 := Nat.le_trans (gR_len (md := md) (rt_good V md (pls pre)) (V (p * 5 + 4))) hpl
    obtain ⟨X3, hX3⟩ : ∃ z, V (p * 5 + 3) = z := ⟨_, rfl⟩
    obtain ⟨X4, hX4⟩ : ∃ z, V (p * 5 + 4) = z := ⟨_, rfl⟩
    have HV : Hid (rtS V md (rtR V md (pls pre)) p = frR (btR (gR md (rtR V md (pls pre)) X3) (gR md (rtR V md (pls pre)) X4)) (p : Int)) := by show _ = _; unfold rtS; rw [hX3, hX4]
    rw [hX3] at to3 hg3 x3
    rw [hX4] at to4 hg4 x4
    have HF : Hid (∀ v0, TabR n0 bf W0 n (rtR V md (pls pre)) v0 → (Calls Try.prog 55 #[.int .i64 X3, .pointer (some ⟨b4, 0, none⟩), .pointer (some ⟨b7, 0, none⟩)] v0 fun e w' => RtPost (gR md (rtR V md (pls pre)) X3) n0 v0 e w') ∧ (Calls Try.prog 55 #[.int .i64 X4, .pointer (some ⟨b4, 0, none⟩), .pointer (some ⟨b7, 0, none⟩)] v0 fun e w' => RtPost (gR md (rtR V md (pls pre)) X4) n0 v0 e w')) := fun v0 hT0 => by
      have k4 := (hT0.1.cell (p := ⟨b4, 0, none⟩) l4.1 l4.2).trans C4.out
      have k7 := (hT0.1.cell (p := ⟨b7, 0, none⟩) l7.1 l7.2).trans C7.out
      have km := (hT0.1.cell (p := ⟨pm, 0, none⟩) lm.1 lm.2).trans CM.out
      refine ⟨foundAtR n0 b4 b7 bf n pm md _ X3 v0 h40 hT0.2.2.2 (cell_lt km) km k4 k7 hT0.2.1 ?_, foundAtR n0 b4 b7 bf n pm md _ X4 v0 h40 hT0.2.2.2 (cell_lt km) km k4 k7 hT0.2.1 ?_⟩
      · rcases to3 with q | q
        · exact .inl q.1
        · exact .inr ⟨q.1, by omega, by omega⟩
      · rcases to4 with q | q
        · exact .inl q.1
        · exact .inr ⟨q.1, by omega, by omega⟩
    obtain ⟨G3, hG3⟩ : ∃ z, gR md (rtR V md (pls pre)) X3 = z := ⟨_, rfl⟩
    obtain ⟨G4, hG4⟩ : ∃ z, gR md (rtR V md (pls pre)) X4 = z := ⟨_, rfl⟩
    rw [hG3] at HV HF hg3
    rw [hG4] at HV HF hg4
    obtain ⟨g1, g2⟩ := G3
    obtain ⟨q1, q2⟩ := G4
    obtain ⟨RR, hRR⟩ : ∃ r, frR (btR (g1, g2) (q1, q2)) (p : Int) = r := ⟨_, rfl⟩
    rw [hRR] at HV
    obtain ⟨y1, y2⟩ := RR
    simp only at hg3 hg4
    have HRR : Hid (frR (btR (g1, g2) (q1, q2)) (p : Int) = (y1, y2)) := hRR
    have zx : Bx < W.heap.size := cell_lt x3
    have zfW : bf < W.heap.size := Nat.lt_of_lt_of_le lf hT.2.2.2
    have stoS := store_slB
    unfold RtPost RtV at HF
    simp only at HF
    clear to3 to4 hX3 hX4 hG3 hG4 hT hB hKW hRR hpl
    gi_wp2
    refine wpIn_region_round (hL := fun ⟨_, _, h⟩ => h) (hd := by kernel_rfl) (S := fun w' => w'.cell? ⟨b7, 0, none⟩ = some (.slice (some ⟨bf, 0, none⟩) n n) ∧ w'.cell? ⟨b5, 0, none⟩ = some (.func (.func 34) #[] #[]) ∧ w'.cell? ⟨b8, 0, none⟩ = some (.func (.func 55) #[] #[.pointer (some ⟨b4, 0, none⟩), .pointer (some ⟨b7, 0, none⟩)]) ∧ w'.cell? ⟨Bx, 3, none⟩ = some (.int .i64 X3) ∧ w'.cell? ⟨Bx, 4, none⟩ = some (.int .i64 X4)) (by kernel_rfl) ?_ (fun hHeld => ?_)
    · exact ⟨by simpa [go_sem] using c7, by simpa [go_sem] using c5, by simpa [go_sem] using c8, by simpa [go_sem] using x3, by simpa [go_sem] using x4⟩
    obtain ⟨v0, hv0⟩ : ∃ z, z = W.drew := ⟨_, rfl⟩
    try rw [← hv0] at hHeld
    rw [← hv0]
    have bv0 : Below W.heap.size W v0 := by rw [hv0]; exact Below.drew (Below.refl _ _)
    clear hv0
    have HTV : Hid (TabR n0 bf W0 n (rtR V md (pls pre)) v0) := HTB.out.below bv0 lf
    have BV0 : Hid (Below W.heap.size W v0) := bv0
    clear c5 c7 c8 x3 x4 bv0 HTB
    refine wpAnyH_take (i := 0) (v := .slice (some ⟨bf, 0, none⟩) n n) rfl (by kernel_rfl) (by kernel_rfl) (by kernel_rfl) (fun _ _ _ h => h) (Or.inl ⟨by kernel_rfl, ?_⟩) hHeld ?_
    · intro w' hSw
      obtain ⟨s0_, s1_, s2_, s3_, s4_⟩ := hSw
      first | (go_simp; done) | (go_simp; with_reducible rfl) | (go_simp; rw [IntKind.wrap_i64]; omega) | (go_simp; omega)
    simp only [Act.put, List.setIfInBounds_toArray, List.set_cons_zero, List.set_cons_succ]
    refine wpAnyH_take (i := 1) (v := .int .i64 (p : Int)) rfl (by kernel_rfl) (by kernel_rfl) (by kernel_rfl) (fun _ _ _ h => h) (Or.inl ⟨by kernel_rfl, ?_⟩) hHeld ?_
    · intro w' hSw
      obtain ⟨s0_, s1_, s2_, s3_, s4_⟩ := hSw
      first | (go_simp; done) | (go_simp; with_reducible rfl) | (go_simp; rw [IntKind.wrap_i64]; omega) | (go_simp; omega)
    simp only [Act.put, List.setIfInBounds_toArray, List.set_cons_zero, List.set_cons_succ]
    refine wpAnyH_take (i := 2) (v := .func (.func 34) #[] #[]) rfl (by kernel_rfl) (by kernel_rfl) (by kernel_rfl) (fun _ _ _ h => h) (Or.inl ⟨by kernel_rfl, ?_⟩) hHeld ?_
    · intro w' hSw
      obtain ⟨s0_, s1_, s2_, s3_, s4_⟩ := hSw
      first | (go_simp; done) | (go_simp; with_reducible rfl) | (go_simp; rw [IntKind.wrap_i64]; omega) | (go_simp; omega)
    simp only [Act.put, List.setIfInBounds_toArray, List.set_cons_zero, List.set_cons_succ]
    refine wpAnyH_take (i := 3) (v := .int .i64 (p : Int)) rfl (by kernel_rfl) (by kernel_rfl) (by kernel_rfl) (fun _ _ _ h => h) (Or.inl ⟨by kernel_rfl, ?_⟩) hHeld ?_
    · intro w' hSw
      obtain ⟨s0_, s1_, s2_, s3_, s4_⟩ := hSw
      first | (go_simp; done) | (go_simp; with_reducible rfl) | (go_simp; rw [IntKind.wrap_i64]; omega) | (go_simp; omega)
    simp only [Act.put, List.setIfInBounds_toArray, List.set_cons_zero, List.set_cons_succ]
    refine wpAnyH_take (i := 4) (v := .func (.func 55) #[] #[.pointer (some ⟨b4, 0, none⟩), .pointer (some ⟨b7, 0, none⟩)]) rfl (by kernel_rfl) (by kernel_rfl) (by kernel_rfl) (fun _ _ _ h => h) (Or.inl ⟨by kernel_rfl, ?_⟩) hHeld ?_
    · intro w' hSw
      obtain ⟨s0_, s1_, s2_, s3_, s4_⟩ := hSw
      first | (go_simp; done) | (go_simp; with_reducible rfl) | (go_simp; rw [IntKind.wrap_i64]; omega) | (go_simp; omega)
    simp only [Act.put, List.setIfInBounds_toArray, List.set_cons_zero, List.set_cons_succ]
    refine wpAnyH_take (i := 5) (v := .pointer (some ⟨Bx, 3, none⟩)) rfl (by kernel_rfl) (by kernel_rfl) (by kernel_rfl) (fun _ _ _ h => h) (Or.inl ⟨by kernel_rfl, ?_⟩) hHeld ?_
    · intro w' hSw
      obtain ⟨s0_, s1_, s2_, s3_, s4_⟩ := hSw
      first | (go_simp; done) | (go_simp; with_reducible rfl) | (go_simp; rw [IntKind.wrap_i64]; omega) | (go_simp; omega)
    simp only [Act.put, List.setIfInBounds_toArray, List.set_cons_zero, List.set_cons_succ]
    refine wpAnyH_take (i := 6) (v := .int .i64 X3) rfl (by kernel_rfl) (by kernel_rfl) (by kernel_rfl) (fun _ _ _ h => h) (Or.inl ⟨by kernel_rfl, ?_⟩) hHeld ?_
    · intro w' hSw
      obtain ⟨s0_, s1_, s2_, s3_, s4_⟩ := hSw
      first | (go_simp; done) | (go_simp; with_reducible rfl) | (go_simp; rw [IntKind.wrap_i64]; omega) | (go_simp; omega)
    simp only [Act.put, List.setIfInBounds_toArray, List.set_cons_zero, List.set_cons_succ]
    refine wpAnyH_take (i := 8) (v := .func (.func 55) #[] #[.pointer (some ⟨b4, 0, none⟩), .pointer (some ⟨b7, 0, none⟩)]) rfl (by kernel_rfl) (by kernel_rfl) (by kernel_rfl) (fun _ _ _ h => h) (Or.inl ⟨by kernel_rfl, ?_⟩) hHeld ?_
    · intro w' hSw
      obtain ⟨s0_, s1_, s2_, s3_, s4_⟩ := hSw
      first | (go_simp; done) | (go_simp; with_reducible rfl) | (go_simp; rw [IntKind.wrap_i64]; omega) | (go_simp; omega)
    simp only [Act.put, List.setIfInBounds_toArray, List.set_cons_zero, List.set_cons_succ]
    refine wpAnyH_take (i := 9) (v := .pointer (some ⟨Bx, 4, none⟩)) rfl (by kernel_rfl) (by kernel_rfl) (by kernel_rfl) (fun _ _ _ h => h) (Or.inl ⟨by kernel_rfl, ?_⟩) hHeld ?_
    · intro w' hSw
      obtain ⟨s0_, s1_, s2_, s3_, s4_⟩ := hSw
      first | (go_simp; done) | (go_simp; with_reducible rfl) | (go_simp; rw [IntKind.wrap_i64]; omega) | (go_simp; omega)
    simp only [Act.put, List.setIfInBounds_toArray, List.set_cons_zero, List.set_cons_succ]
    refine wpAnyH_take (i := 10) (v := .int .i64 X4) rfl (by kernel_rfl) (by kernel_rfl) (by kernel_rfl) (fun _ _ _ h => h) (Or.inl ⟨by kernel_rfl, ?_⟩) hHeld ?_
    · intro w' hSw
      obtain ⟨s0_, s1_, s2_, s3_, s4_⟩ := hSw
      first | (go_simp; done) | (go_simp; with_reducible rfl) | (go_simp; rw [IntKind.wrap_i64]; omega) | (go_simp; omega)
    simp only [Act.put, List.setIfInBounds_toArray, List.set_cons_zero, List.set_cons_succ]
    refine wpAnyH_ready (rs := [7]) (by kernel_rfl) (by simp) ?_
    refine (AllReadyH.cons rfl (fun KK hK => ?_) AllReadyH.nil)
    go_simp
    go_wp2_with (first | (refine ((HF.out _ HTV.out).1).mono ?_; intro e v0_1 hFa; obtain ⟨t3, c3, rfl, hl3, b9⟩ := hFa))
    have hH9 : v0_1.cell? ⟨b7, 0, none⟩ = some (.slice (some ⟨bf, 0, none⟩) n n) ∧ v0_1.cell? ⟨b5, 0, none⟩ = some (.func (.func 34) #[] #[]) ∧ v0_1.cell? ⟨b8, 0, none⟩ = some (.func (.func 55) #[] #[.pointer (some ⟨b4, 0, none⟩), .pointer (some ⟨b7, 0, none⟩)]) ∧ v0_1.cell? ⟨Bx, 3, none⟩ = some (.int .i64 X3) ∧ v0_1.cell? ⟨Bx, 4, none⟩ = some (.int .i64 X4) := ⟨(b9.cell (p := ⟨b7, 0, none⟩) (cell_lt hHeld.1)).trans hHeld.1, (b9.cell (p := ⟨b5, 0, none⟩) (cell_lt hHeld.2.1)).trans hHeld.2.1, (b9.cell (p := ⟨b8, 0, none⟩) (cell_lt hHeld.2.2.1)).trans hHeld.2.2.1, (b9.cell (p := ⟨Bx, 3, none⟩) (cell_lt hHeld.2.2.2.1)).trans hHeld.2.2.2.1, (b9.cell (p := ⟨Bx, 4, none⟩) (cell_lt hHeld.2.2.2.2)).trans hHeld.2.2.2.2⟩
    replace HTV : Hid (TabR n0 bf W0 n (rtR V md (pls pre)) v0_1) := HTV.out.below b9 lf
    replace BV0 : Hid (Below W.heap.size W v0_1) := BV0.out.trans (b9.mono BV0.out.size)
    skip
    have HL3 : Hid (LstF n0 v0_1 t3 c3 g2) := hl3
    clear b9 hl3
    refine hK.out _ _ (hH9) (fun hHeld => ?_)
    clear hK KK
    refine wpAnyH_ready (rs := [11]) (by kernel_rfl) (by simp) ?_
    refine (AllReadyH.cons rfl (fun KK hK => ?_) AllReadyH.nil)
    go_simp
    go_wp2_with (first | (refine ((HF.out _ HTV.out).2).mono ?_; intro e v0_2 hFa; obtain ⟨t4, c4, rfl, hl4, b9⟩ := hFa))
    have hH9 : v0_2.cell? ⟨b7, 0, none⟩ = some (.slice (some ⟨bf, 0, none⟩) n n) ∧ v0_2.cell? ⟨b5, 0, none⟩ = some (.func (.func 34) #[] #[]) ∧ v0_2.cell? ⟨b8, 0, none⟩ = some (.func (.func 55) #[] #[.pointer (some ⟨b4, 0, none⟩), .pointer (some ⟨b7, 0, none⟩)]) ∧ v0_2.cell? ⟨Bx, 3, none⟩ = some (.int .i64 X3) ∧ v0_2.cell? ⟨Bx, 4, none⟩ = some (.int .i64 X4) := ⟨(b9.cell (p := ⟨b7, 0, none⟩) (cell_lt hHeld.1)).trans hHeld.1, (b9.cell (p := ⟨b5, 0, none⟩) (cell_lt hHeld.2.1)).trans hHeld.2.1, (b9.cell (p := ⟨b8, 0, none⟩) (cell_lt hHeld.2.2.1)).trans hHeld.2.2.1, (b9.cell (p := ⟨Bx, 3, none⟩) (cell_lt hHeld.2.2.2.1)).trans hHeld.2.2.2.1, (b9.cell (p := ⟨Bx, 4, none⟩) (cell_lt hHeld.2.2.2.2)).trans hHeld.2.2.2.2⟩
    replace HTV : Hid (TabR n0 bf W0 n (rtR V md (pls pre)) v0_2) := HTV.out.below b9 lf
    replace BV0 : Hid (Below W.heap.size W v0_2) := BV0.out.trans (b9.mono BV0.out.size)
    replace HL3 : Hid (LstF n0 v0_2 t3 c3 g2) := HL3.out.below b9
    have HL4 : Hid (LstF n0 v0_2 t4 c4 q2) := hl4
    clear b9 hl4
    refine hK.out _ _ (hH9) (fun hHeld => ?_)
    clear hK KK
    refine wpAnyH_ready (rs := [12]) (by kernel_rfl) (by simp) ?_
    refine (AllReadyH.cons rfl (fun KK hK => ?_) AllReadyH.nil)
    go_simp
    go_wp2_with (first | (refine (ofStepR (p : Int) g1 q1 g2 q2 t3 t4 c3 c4 _ hg3 hg4 HL3.out.plain HL4.out.plain).mono ?_; intro e v0_3 hJn; unfold RtPost RtV at hJn; rw [HRR.out] at hJn; simp only at hJn; obtain ⟨t5, c5, rfl, hl5, b9⟩ := hJn))
    have hH9 : v0_3.cell? ⟨b7, 0, none⟩ = some (.slice (some ⟨bf, 0, none⟩) n n) ∧ v0_3.cell? ⟨b5, 0, none⟩ = some (.func (.func 34) #[] #[]) ∧ v0_3.cell? ⟨b8, 0, none⟩ = some (.func (.func 55) #[] #[.pointer (some ⟨b4, 0, none⟩), .pointer (some ⟨b7, 0, none⟩)]) ∧ v0_3.cell? ⟨Bx, 3, none⟩ = some (.int .i64 X3) ∧ v0_3.cell? ⟨Bx, 4, none⟩ = some (.int .i64 X4) := ⟨(b9.cell (p := ⟨b7, 0, none⟩) (cell_lt hHeld.1)).trans hHeld.1, (b9.cell (p := ⟨b5, 0, none⟩) (cell_lt hHeld.2.1)).trans hHeld.2.1, (b9.cell (p := ⟨b8, 0, none⟩) (cell_lt hHeld.2.2.1)).trans hHeld.2.2.1, (b9.cell (p := ⟨Bx, 3, none⟩) (cell_lt hHeld.2.2.2.1)).trans hHeld.2.2.2.1, (b9.cell (p := ⟨Bx, 4, none⟩) (cell_lt hHeld.2.2.2.2)).trans hHeld.2.2.2.2⟩
    have HL5 : Hid (LstF n0 v0_3 t5 c5 y2) := hl5.low HTV.out.2.2.2
    replace HTV : Hid (TabR n0 bf W0 n (rtR V md (pls pre)) v0_3) := HTV.out.below b9 lf
    replace BV0 : Hid (Below W.heap.size W v0_3) := BV0.out.trans (b9.mono BV0.out.size)
    have cfv := (HTV.out.2.1 p hpn)
    obtain ⟨tq, cq, cfq, cfr, -⟩ := cfv
    have ffv : v0_3.frozen? ⟨bf, p * 2, none⟩ = false := HTV.out.2.2.1 _
    have ffw : v0_3.frozen? ⟨bf, p * 2 + 1, none⟩ = false := HTV.out.2.2.1 _
    have cfs : (v0_3.cell? ⟨bf, p * 2, none⟩).isSome = true := by rw [cfq]; rfl
    have cft : (v0_3.cell? ⟨bf, p * 2 + 1, none⟩).isSome = true := by rw [cfr]; rfl
    clear b9 hl5
    refine hK.out _ _ (hH9) (fun hHeld => ?_)
    clear hK KK
    refine wpAnyH_take (i := 13) (v := .pointer (some ⟨bf, p * 2, none⟩)) rfl (by kernel_rfl) (by kernel_rfl) (by kernel_rfl) (fun _ _ _ h => h) (Or.inl ⟨by kernel_rfl, ?_⟩) hHeld ?_
    · intro w' hSw
      obtain ⟨s0_, s1_, s2_, s3_, s4_⟩ := hSw
      first | (go_simp; done) | (go_simp; with_reducible rfl) | (go_simp; rw [IntKind.wrap_i64]; omega) | (go_simp; omega)
    simp only [Act.put, List.setIfInBounds_toArray, List.set_cons_zero, List.set_cons_succ]
    refine wpAnyH_ready (rs := [14]) (by kernel_rfl) (by simp) ?_
    refine (AllReadyH.cons rfl (fun KK hK => ?_) AllReadyH.nil)
    go_simp
    obtain ⟨v0_4, hV_⟩ : ∃ z, z = (v0_3.setCell ⟨bf, p * 2, none⟩ (.bool y1)).setCell ⟨bf, p * 2 + 1, none⟩ (.slice t5 y2.length c5) := ⟨_, rfl⟩
    rw [← hV_]
    have HT9 : Hid (TabR n0 bf W0 n (rtR V md (pls (pre ++ [⟨p, hpn⟩]))) v0_4) := by
      show TabR _ _ _ _ _ _
      rw [hV_, pls_snoc]
      show TabR n0 bf W0 n (updT (rtR V md (pls pre)) p (rtS V md (rtR V md (pls pre)) p)) _
      rw [HV.out]
      exact HTV.out.set lf hpn HL5.out
    have BS9 : Hid (Beside bf v0_3 v0_4) := by show Beside _ _ _; rw [hV_]; exact (Beside.setCell bf _ _ _).trans (Beside.setCell bf _ _ _)
    clear hV_
    refine hK.out _ _ (⟨(BS9.out.cell (p := ⟨b7, 0, none⟩) (cell_lt hHeld.1) l7.2).trans hHeld.1, (BS9.out.cell (p := ⟨b5, 0, none⟩) (cell_lt hHeld.2.1) l5.2).trans hHeld.2.1, (BS9.out.cell (p := ⟨b8, 0, none⟩) (cell_lt hHeld.2.2.1) l8.2).trans hHeld.2.2.1, (BS9.out.cell (p := ⟨Bx, 3, none⟩) (cell_lt hHeld.2.2.2.1) nbx).trans hHeld.2.2.2.1, (BS9.out.cell (p := ⟨Bx, 4, none⟩) (cell_lt hHeld.2.2.2.2) nbx).trans hHeld.2.2.2.2⟩) (fun hHeld => ?_)
    clear hK KK
    refine wpAnyH_done (by kernel_rfl) ?_ _
    clear hHeld
    have b1 : Below w.heap.size w v0_4 := HB.out.trans ((BV0.out.mono HB.out.size).trans (BS9.out.below lb (Nat.le_trans HB.out.size BV0.out.size)))
    exact ⟨(keepsFrom_below BV0.out).trans (keepsFrom_beside BS9.out (by omega)), (KpB.below (BV0.out.mono (by omega))).trans (KpB.beside BS9.out (by have := BV0.out.size; omega)), ⟨HT9.out, b1⟩⟩
  case done =>
    rintro D xs W hD rfl ⟨hT, hB⟩ hK
    have c7 := (hT.1.cell (p := ⟨b7, 0, none⟩) l7.1 l7.2).trans C7.out
    gi_wp2
    refine ⟨by simp, .inl ⟨_, _, rfl, run_takeDeferred hK, ?_⟩⟩
    refine ⟨_, results_tmp rfl _ _ _, bf, rfl, fun j hj => ?_, hB.trans (belowK_b (w := w) (Nat.le_refl _) W D _ _ (by omega) hK rfl rfl)⟩
    obtain ⟨t, c, h1, h3, h2⟩ := hT.2.1 j hj
    refine ⟨t, c, cell_kept h1 (grownBy_putObj' _ D (.deferred none)) (fun r e => by cases e; exact ⟨_, hK, rfl⟩), cell_kept h3 (grownBy_putObj' _ D (.deferred none)) (fun r e => by cases e; exact ⟨_, hK, rfl⟩), ?_⟩
    rcases h2.low ln with h2 | ⟨h0, g, e, hg0, hgz, hc, hfz⟩
    · exact .inl h2
    · have h00 : 0 < (rtR V md (pls (dA n hn n)) j).2.length := List.length_pos_iff.2 h0
      exact .inr ⟨h0, g, e, hg0, by simpa [World.putObj] using hgz, fun i hi => cell_kept (hc i hi) (grownBy_putObj' _ D (.deferred none)) (fun r e => by cases e; exact ⟨_, hK, rfl⟩), fun i => by
        obtain ⟨oo, ho, hcl⟩ := cells_of_cell (hc 0 h00)
        exact (World.frozen?_of_block (a := ⟨g, i, none⟩) (grownBy_keeps_cells (grownBy_putObj' _ D (.deferred none)) (fun r e => by cases e; exact ⟨_, hK, rfl⟩) ho hcl)).trans (hfz i)⟩
  case stop =>
    rintro D c pre W _ _ h _
    exact h.elim
end Go.Proofs.Ytlkegoofpmgcjaa
