/-
What is proved: one taken off a queue of machines, one put on.
-/
import Derived.Test.YtcialcejmjggeaaHpQ
import Derived.Test.YtcialcejmjggeaaAnr
import Derived.Deep.RegionHeldLaw
import Derived.Deep.DeepCutAuto

namespace Go.Proofs.Ytcialcejmjggeaa
set_option maxRecDepth 40000
open Go.ChangeShapes Go.WideShapes Go.ChangeAt Go.RowKit
set_option linter.unusedVariables false
set_option linter.unusedSimpArgs false

set_option maxRecDepth 20000 in
set_option maxHeartbeats 4000000 in
theorem qpop_any (sh : Bool) (X : Nat → Prop) (q n : Nat) (V : Nat → Int) (P : Nat → Nat) (w : World) (hn : n < 1000) (HQ : Hid (QAt X q w sh (n + 1) V P)) :
    Calls Try.prog 81 #[.pointer (some ⟨q, 0, none⟩)] w fun e w' => e = .returned (.iface 55 (plV V (P n))) ∧ QAt X q w' sh n V P ∧ Turn X w w' := by
  obtain ⟨g, cap, -, c1, fq, -, zq, zg, ng, xq, -, hc, hP⟩ := HQ.out.open_ (by omega)
  have hp_ := hP n (by omega)
  unfold PlAt at hp_
  obtain ⟨p0, p1, p2, p3, p4⟩ := hp_
  clear hP
  have HX : Hid (X q) := xq
  clear xq
  obtain ⟨N, hN⟩ : ∃ z : Nat, z = n + 1 := ⟨_, rfl⟩
  have HC := HQ.out.cut c1
  rw [← hN] at c1 hc
  have e1 : (N : Int) - 1 = (n : Int) := by omega
  have k1 : (n : Int) < (N : Int) := by omega
  have k3 : n < N := by omega
  have k2 : n ≤ cap := by omega
  have k4 : (n : Int) ≤ (cap : Int) := by omega
  have HC' : Hid (_ ∧ _) := HC
  clear HC hN
  obtain ⟨a, hA⟩ : ∃ z, P n = z := ⟨_, rfl⟩
  rw [hA] at p0 p1 p2 p3 p4 ⊢
  clear hA
  have fz := fq 1
  go_enter Try.func81, Try.ntmps81
  go_wp2
  go_ret
  refine ⟨rfl, ?_, ?_⟩
  · exact HC'.out.1.below (by repeat (first | with_reducible exact Below.refl _ _ | with_reducible refine Below.setCell ?_ (by first | omega | (simp; done) | (simp; omega)) _ | with_reducible refine bDrewN ?_ _ | with_reducible refine Below.drew ?_ | with_reducible refine Below.alloc ?_ (by first | omega | (simp; done) | (simp; omega)) _))
  · exact HC'.out.2.trans (Turn.grown (by repeat (first | with_reducible exact Below.refl _ _ | with_reducible refine Below.setCell ?_ (by first | omega | (simp; done) | (simp; omega)) _ | with_reducible refine bDrewN ?_ _ | with_reducible refine Below.drew ?_ | with_reducible refine Below.alloc ?_ (by first | omega | (simp; done) | (simp; omega)) _)))
theorem cells_fiveN {W : World} {lb : Nat} {a b c d e : Value} (h0 : W.cell? ⟨lb, 0, none⟩ = some a) (h1 : W.cell? ⟨lb, 1, none⟩ = some b) (h2 : W.cell? ⟨lb, 2, none⟩ = some c) (h3 : W.cell? ⟨lb, 3, none⟩ = some d) (h4 : W.cell? ⟨lb, 4, none⟩ = some e) : ∀ j u, [a, b, c, d, e][j]? = some u → W.cell? ((⟨lb, 0, none⟩ : Addr).add j) = some u := by
  intro j u h
  match j, h with
  | 0, h => cases h; exact h0
  | 1, h => cases h; exact h1
  | 2, h => cases h; exact h2
  | 3, h => cases h; exact h3
  | 4, h => cases h; exact h4
  | j + 5, h => simp at h
theorem wp_placed {o : Oper} {a : Act} {KK : Act → World → Prop} {Q : Exit → Act → World → Prop} {W : World} {x0 x1 x2 x3 x4 : Int} (base : Nat) (v : Value) (k : Nat) (xs : List Value) (sa z : Operand)
    (ho : o.op = .call { callee := .builtin .append, args := #[sa, z], argTypes := #[73, 73] }) (hs : a.eval sa = v) (hown : W.ownsRow base 55 5 v k xs) (lb : Nat) (hx : a.eval z = .slice (some ⟨lb, 0, none⟩) 1 1)
    (c0 : W.cell? ⟨lb, 0, none⟩ = some (.int .i64 x0)) (c1 : W.cell? ⟨lb, 1, none⟩ = some (.int .i64 x1)) (c2 : W.cell? ⟨lb, 2, none⟩ = some (.int .i64 x2)) (c3 : W.cell? ⟨lb, 3, none⟩ = some (.int .i64 x3)) (c4 : W.cell? ⟨lb, 4, none⟩ = some (.int .i64 x4)) (hk : k ≤ 100000) (hb : base ≤ W.heap.size)
    (hK : ∀ g cap w', w'.ownsRow base 55 5 (.slice (some ⟨g, 0, none⟩) (k + 1) cap) (k + 1) (xs ++ [.int .i64 x0, .int .i64 x1, .int .i64 x2, .int .i64 x3, .int .i64 x4]) → W.grownBy w' v.ownBlock → (v.ownBlock = some g ∨ g = W.heap.size) → KK (a.put o.dst (.slice (some ⟨g, 0, none⟩) (k + 1) cap)) w') : o.wp Try.prog a W KK Q := by
  obtain ⟨i0, hi, hz0, hz1, hz2⟩ := info_parts info_placed
  refine wp_append_lies _ sa z 73 ho base 55 i0 (.agg #[.int .i64 0, .int .i64 0, .int .i64 0, .int .i64 0, .int .i64 0]) 5 40 Try.underlying73 hi hz0 hz1 hz2 rfl (by decide) v k _ hs hown ⟨lb, 0, none⟩ 1 1 [.int .i64 x0, .int .i64 x1, .int .i64 x2, .int .i64 x3, .int .i64 x4] hx rfl (cells_fiveN c0 c1 c2 c3 c4) ?_ (by decide) (by unfold maxLen; omega) (by omega) hb _ rfl ?_
  · intro u hu
    simp at hu
    rcases hu with rfl | rfl | rfl | rfl | rfl <;> rfl
  · intro g cap w' q1 q2 q3 _
    exact hK g cap w' q1 q2 q3
def pushP (P : Nat → Nat) (n a : Nat) : Nat → Nat := fun k => if k = n then a else P k
/-- A queue whose list has grown, ahead of the new list's being stored. -/
theorem QAt.grow {X : Nat → Prop} {q : Nat} {W w' : World} {sh : Bool} {n : Nat} {V : Nat → Int} {P : Nat → Nat} {s : Option Addr} {cap g cap' a : Nat} (h : QAt X q W sh n V P) (c1 : W.cell? ⟨q, 1, none⟩ = some (.slice s n cap)) (hX : ∀ b, W.heap.size ≤ b → X b)
    (ho : w'.ownsRow 0 55 5 (.slice (some ⟨g, 0, none⟩) (n + 1) cap') (n + 1) (vals (qF V P) (n * 5) ++ [.int .i64 (V (a * 4)), .int .i64 (V (a * 4 + 1)), .int .i64 (V (a * 4 + 2)), .int .i64 (V (a * 4 + 3)), .int .i64 (a : Int)])) (hg : W.grownBy w' (Value.slice s n cap).ownBlock) (hn : (Value.slice s n cap).ownBlock = some g ∨ g = W.heap.size) :
    w'.cell? ⟨q, 1, none⟩ = some (.slice s n cap) ∧ w'.frozen? ⟨q, 1, none⟩ = false ∧ q < w'.heap.size ∧ Turn X W w' ∧ QAt X q (w'.setCell ⟨q, 1, none⟩ (.slice (some ⟨g, 0, none⟩) (n + 1) cap')) sh (n + 1) V (pushP P n a) ∧ Turn X W (w'.setCell ⟨q, 1, none⟩ (.slice (some ⟨g, 0, none⟩) (n + 1) cap')) := by
  have hl := h.lt
  obtain ⟨hXq, s', cap2, h1, h2, h3⟩ := h
  have e := (cell_of_row W q 1 _ _ _ h1).symm.trans c1
  simp at e
  obtain ⟨rfl, rfl⟩ := e
  have hq : w'.heap[q]? = _ := (hg.block q hl (fun e => (h3 q e.symm).2 rfl)).trans h1
  have TT : Turn X W w' := ⟨hg.os, hg.tape, hg.output, hg.size, fun k hk hn => hg.block k hk (fun e => hn (h3 k e.symm).1)⟩
  have hgX : X g ∧ g ≠ q := by
    rcases hn with e | rfl
    · exact h3 g e
    · exact ⟨hX _ (Nat.le_refl _), Nat.ne_of_gt hl⟩
  have ev : vals (qF V (pushP P n a)) ((n + 1) * 5) = vals (qF V P) (n * 5) ++ [.int .i64 (V (a * 4)), .int .i64 (V (a * 4 + 1)), .int .i64 (V (a * 4 + 2)), .int .i64 (V (a * 4 + 3)), .int .i64 (a : Int)] := by
    rw [vals_pl]
    have e1 : pushP P n a n = a := by unfold pushP; simp
    have e2 : vals (qF V (pushP P n a)) (n * 5) = vals (qF V P) (n * 5) := vals_congr fun j hj => by
      have : j / 5 ≠ n := by omega
      unfold qF pushP
      simp [this]
    rw [e1, e2]
  refine ⟨cell_of_row w' q 1 _ _ _ hq, frozen_of_row w' q 1 _ _ hq, Nat.lt_of_lt_of_le hl hg.size, TT, ⟨hXq, some ⟨g, 0, none⟩, cap', ?_, ?_, ?_⟩, TT.trans (Turn.of (Beside.setCell q _ _ _) hXq)⟩
  · have := heap_setCell_same w' q 1 _ _ (.slice (some ⟨g, 0, none⟩) (n + 1) cap') hq
    simpa using this
  · rw [ev]
    exact row_turn ho (Turn.of (S := fun k => k = q) (Beside.setCell q _ _ _) rfl) (fun g' e => by cases e; exact hgX.2)
  · intro g' e
    cases e
    exact hgX
theorem QAt.row {X : Nat → Prop} {q : Nat} {W : World} {sh : Bool} {n : Nat} {V : Nat → Int} {P : Nat → Nat} {s : Option Addr} {cap : Nat} (h : QAt X q W sh n V P) (c1 : W.cell? ⟨q, 1, none⟩ = some (.slice s n cap)) : W.ownsRow 0 55 5 (.slice s n cap) n (vals (qF V P) (n * 5)) := by
  obtain ⟨hXq, s', cap2, h1, h2, h3⟩ := h
  have e := (cell_of_row W q 1 _ _ _ h1).symm.trans c1
  simp at e
  obtain ⟨rfl, rfl⟩ := e
  exact h2
theorem assert_pl (x0 x1 x2 x3 x4 : Int) (w : World) : Sem.run Try.prog (Instr.typeAssert (.iface 55 (.agg #[.int .i64 x0, .int .i64 x1, .int .i64 x2, .int .i64 x3, .int .i64 x4])) 20 55 false) w = .ok (.agg #[.int .i64 x0, .int .i64 x1, .int .i64 x2, .int .i64 x3, .int .i64 x4]) w := by kernel_rfl
set_option maxRecDepth 20000 in
set_option maxHeartbeats 4000000 in
theorem qpush_any (sh : Bool) (X : Nat → Prop) (q n a : Nat) (V : Nat → Int) (P : Nat → Nat) (w : World) (hn : n < 1000) (HX : Hid (∀ b, w.heap.size ≤ b → X b)) (HQ : Hid (QAt X q w sh n V P)) :
    Calls Try.prog 82 #[.pointer (some ⟨q, 0, none⟩), .iface 55 (plV V a)] w fun e w' => e = .returned (.tuple #[]) ∧ QAt X q w' sh (n + 1) V (pushP P n a) ∧ Turn X w w' := by
  obtain ⟨s, cap, c1⟩ := HQ.out.len
  have zq := HQ.out.lt
  unfold plV
  go_enter Try.func82, Try.ntmps82
  go_wp2_with fail
  refine wp_region_held_drew (S := fun w' => w'.heap.size ≥ 0 ∧ q ≥ 0) (by kernel_rfl) ?_ (fun hHeld => ?_)
  · exact ⟨Nat.zero_le _, Nat.zero_le _⟩
  obtain ⟨v0, hv0⟩ : ∃ z, z = w.drew := ⟨_, rfl⟩
  try rw [← hv0] at hHeld
  rw [← hv0]
  have bv0 : Below w.heap.size w v0 := by rw [hv0]; exact Below.drew (Below.refl _ _)
  clear hv0
  have HV : Hid (QAt X q v0 sh n V P) := HQ.out.below bv0
  have TV : Hid (Turn X w v0) := Turn.grown bv0
  have HXv : Hid (∀ b, v0.heap.size ≤ b → X b) := fun b hb => HX.out b (Nat.le_trans bv0.size hb)
  have c1v : v0.cell? ⟨q, 1, none⟩ = some (.slice s n cap) := (bv0.cell (p := ⟨q, 1, none⟩) zq).trans c1
  have zqv : q < v0.heap.size := Nat.lt_of_lt_of_le zq bv0.size
  clear bv0 HQ c1 zq
  refine wpAnyH_take (i := 0) (v := .pointer (some ⟨q, 0, none⟩)) rfl (by kernel_rfl) (by kernel_rfl) (by kernel_rfl) (fun _ _ _ h => h) (Or.inl ⟨by kernel_rfl, ?_⟩) hHeld ?_
  · intro w' hSw
    obtain ⟨s0, s1⟩ := hSw
    first | (go_simp; done) | (go_simp; with_reducible rfl) | (go_simp; rw [IntKind.wrap_i64]; omega) | (go_simp; omega)
  simp only [Act.put, List.setIfInBounds_toArray, List.set_cons_zero, List.set_cons_succ]
  refine wpAnyH_take (i := 1) (v := .pointer (some ⟨q, 0, none⟩)) rfl (by kernel_rfl) (by kernel_rfl) (by kernel_rfl) (fun _ _ _ h => h) (Or.inl ⟨by kernel_rfl, ?_⟩) hHeld ?_
  · intro w' hSw
    obtain ⟨s0, s1⟩ := hSw
    first | (go_simp; done) | (go_simp; with_reducible rfl) | (go_simp; rw [IntKind.wrap_i64]; omega) | (go_simp; omega)
  simp only [Act.put, List.setIfInBounds_toArray, List.set_cons_zero, List.set_cons_succ]
  refine wpAnyH_take (i := 2) (v := .pointer (some ⟨q, 0, none⟩)) rfl (by kernel_rfl) (by kernel_rfl) (by kernel_rfl) (fun _ _ _ h => h) (Or.inl ⟨by kernel_rfl, ?_⟩) hHeld ?_
  · intro w' hSw
    obtain ⟨s0, s1⟩ := hSw
    first | (go_simp; done) | (go_simp; with_reducible rfl) | (go_simp; rw [IntKind.wrap_i64]; omega) | (go_simp; omega)
  simp only [Act.put, List.setIfInBounds_toArray, List.set_cons_zero, List.set_cons_succ]
  refine wpAnyH_take (i := 3) (v := .pointer (some ⟨q, 1, none⟩)) rfl (by kernel_rfl) (by kernel_rfl) (by kernel_rfl) (fun _ _ _ h => h) (Or.inl ⟨by kernel_rfl, ?_⟩) hHeld ?_
  · intro w' hSw
    obtain ⟨s0, s1⟩ := hSw
    first | (go_simp; done) | (go_simp; with_reducible rfl) | (go_simp; rw [IntKind.wrap_i64]; omega) | (go_simp; omega)
  simp only [Act.put, List.setIfInBounds_toArray, List.set_cons_zero, List.set_cons_succ]
  refine wpAnyH_take (i := 5) (v := .iface 55 (.agg #[.int .i64 (V (a * 4)), .int .i64 (V (a * 4 + 1)), .int .i64 (V (a * 4 + 2)), .int .i64 (V (a * 4 + 3)), .int .i64 (a : Int)])) rfl (by kernel_rfl) (by kernel_rfl) (by kernel_rfl) (fun _ _ _ h => h) (Or.inl ⟨by kernel_rfl, ?_⟩) hHeld ?_
  · intro w' hSw
    obtain ⟨s0, s1⟩ := hSw
    first | (go_simp; done) | (go_simp; with_reducible rfl) | (go_simp; rw [IntKind.wrap_i64]; omega) | (go_simp; omega)
  simp only [Act.put, List.setIfInBounds_toArray, List.set_cons_zero, List.set_cons_succ]
  refine wpAnyH_take (i := 6) (v := .agg #[.int .i64 (V (a * 4)), .int .i64 (V (a * 4 + 1)), .int .i64 (V (a * 4 + 2)), .int .i64 (V (a * 4 + 3)), .int .i64 (a : Int)]) rfl (by kernel_rfl) (by kernel_rfl) (by kernel_rfl) (fun _ _ _ h => h) (Or.inl ⟨by kernel_rfl, ?_⟩) hHeld ?_
  · intro w' hSw
    obtain ⟨s0, s1⟩ := hSw
    have := assert_pl (V (a * 4)) (V (a * 4 + 1)) (V (a * 4 + 2)) (V (a * 4 + 3)) (a : Int) w'; go_simp
  simp only [Act.put, List.setIfInBounds_toArray, List.set_cons_zero, List.set_cons_succ]
  refine wpAnyH_ready (rs := [4, 7]) (by kernel_rfl) (by simp) ?_
  refine ready_two ?_ ?_
  · refine ready_val v0 (.slice s n cap) rfl (by kernel_rfl) ?_ (⟨Nat.zero_le _, Nat.zero_le _⟩) (fun hHeld => ?_) AllReadyH.nil
    · go_simp
    simp only [Act.put, List.setIfInBounds_toArray, List.set_cons_zero, List.set_cons_succ]
    refine wpAnyH_ready (rs := [7]) (by kernel_rfl) (by simp) ?_
    refine Exists.elim (show ∃ z, z = v0.alloc (.cells #[.int .i64 (V (a * 4)), .int .i64 (V (a * 4 + 1)), .int .i64 (V (a * 4 + 2)), .int .i64 (V (a * 4 + 3)), .int .i64 (a : Int)] 55) from ⟨_, rfl⟩) (fun v0_3 hW_ => ?_)
    have zl_ : v0.heap.size < v0_3.heap.size := by rw [hW_]; simp
    have ba_ : Below v0.heap.size v0 v0_3 := by rw [hW_]; exact (by repeat (first | with_reducible exact Below.refl _ _ | with_reducible refine Below.setCell ?_ (by first | omega | (simp; done) | (simp; omega)) _ | with_reducible refine bDrewN ?_ _ | with_reducible refine Below.drew ?_ | with_reducible refine Below.alloc ?_ (by first | omega | (simp; done) | (simp; omega)) _))
    have HA_ : Hid (QAt X q v0_3 sh n V P) := HV.out.below ba_
    have TA_ : Hid (Turn X w v0_3) := TV.out.trans (Turn.grown ba_)
    have HXa_ : Hid (∀ b, v0_3.heap.size ≤ b → X b) := fun b hb => HXv.out b (Nat.le_trans ba_.size hb)
    have c1w : v0_3.cell? ⟨q, 1, none⟩ = some (.slice s n cap) := (ba_.cell (p := ⟨q, 1, none⟩) zqv).trans c1v
    have l0 : v0_3.cell? ⟨v0.heap.size, 0, none⟩ = some (.int .i64 (V (a * 4))) := by rw [hW_]; simp [go_sem]
    have l1 : v0_3.cell? ⟨v0.heap.size, 1, none⟩ = some (.int .i64 (V (a * 4 + 1))) := by rw [hW_]; simp [go_sem]
    have l2 : v0_3.cell? ⟨v0.heap.size, 2, none⟩ = some (.int .i64 (V (a * 4 + 2))) := by rw [hW_]; simp [go_sem]
    have l3 : v0_3.cell? ⟨v0.heap.size, 3, none⟩ = some (.int .i64 (V (a * 4 + 3))) := by rw [hW_]; simp [go_sem]
    have l4 : v0_3.cell? ⟨v0.heap.size, 4, none⟩ = some (.int .i64 (a : Int)) := by rw [hW_]; simp [go_sem]
    refine ready_val v0_3 (.slice (some ⟨v0.heap.size, 0, none⟩) 1 1) rfl (by kernel_rfl) ?_ (⟨Nat.zero_le _, Nat.zero_le _⟩) (fun hHeld => ?_) AllReadyH.nil
    · rw [hW_]; clear hW_; go_simp
    clear hW_
    simp only [Act.put, List.setIfInBounds_toArray, List.set_cons_zero, List.set_cons_succ]
    refine wpAnyH_ready (rs := [8]) (by kernel_rfl) (by simp) ?_
    refine ready_wp rfl (by kernel_rfl) (fun KK hK => ?_) AllReadyH.nil
    refine wp_placed 0 (.slice s n cap) n (vals (qF V P) (n * 5)) (.tmp 8) (.tmp 11) (by kernel_rfl) (by kernel_rfl) (HA_.out.row c1w) v0.heap.size (by kernel_rfl) l0 l1 l2 l3 l4 (by omega) (Nat.zero_le _) ?_
    intro g cap' v0_4 o_ g_ n_
    have GG := HA_.out.grow c1w HXa_.out o_ g_ n_
    have f1 := GG.1
    have f2 := GG.2.1
    have f3 := GG.2.2.1
    have FF : Hid (_ ∧ _) := GG.2.2.2.2
    clear GG o_ g_ n_
    refine hK.out _ _ (⟨Nat.zero_le _, Nat.zero_le _⟩) (fun hHeld => ?_)
    clear hK KK
    simp only [Act.put, List.setIfInBounds_toArray, List.set_cons_zero, List.set_cons_succ]
    refine wpAnyH_take (i := 9) (v := .pointer (some ⟨q, 0, none⟩)) rfl (by kernel_rfl) (by kernel_rfl) (by kernel_rfl) (fun _ _ _ h => h) (Or.inl ⟨by kernel_rfl, ?_⟩) hHeld ?_
    · intro w' hSw
      obtain ⟨s0, s1⟩ := hSw
      first | (go_simp; done) | (go_simp; with_reducible rfl) | (go_simp; rw [IntKind.wrap_i64]; omega) | (go_simp; omega)
    simp only [Act.put, List.setIfInBounds_toArray, List.set_cons_zero, List.set_cons_succ]
    refine wpAnyH_take (i := 10) (v := .pointer (some ⟨q, 1, none⟩)) rfl (by kernel_rfl) (by kernel_rfl) (by kernel_rfl) (fun _ _ _ h => h) (Or.inl ⟨by kernel_rfl, ?_⟩) hHeld ?_
    · intro w' hSw
      obtain ⟨s0, s1⟩ := hSw
      first | (go_simp; done) | (go_simp; with_reducible rfl) | (go_simp; rw [IntKind.wrap_i64]; omega) | (go_simp; omega)
    simp only [Act.put, List.setIfInBounds_toArray, List.set_cons_zero, List.set_cons_succ]
    refine wpAnyH_ready (rs := [11]) (by kernel_rfl) (by simp) ?_
    refine Exists.elim (show ∃ z, z = v0_4.setCell ⟨q, 1, none⟩ (.slice (some ⟨g, 0, none⟩) (n + 1) cap') from ⟨_, rfl⟩) (fun v0_5 hW_ => ?_)
    have F1 : QAt X q v0_5 sh (n + 1) V (pushP P n a) := by rw [hW_]; exact FF.out.1
    have F2 : Turn X w v0_5 := by rw [hW_]; exact TA_.out.trans FF.out.2
    refine ready_skp v0_5 rfl (by kernel_rfl) ?_ (⟨Nat.zero_le _, Nat.zero_le _⟩) (fun hHeld => ?_) AllReadyH.nil
    · rw [hW_]; clear hW_; go_simp
    clear hW_
    simp only [Act.put, List.setIfInBounds_toArray, List.set_cons_zero, List.set_cons_succ]
    refine wpAnyH_done (by kernel_rfl) ?_ _
    clear hHeld
    go_end0
    exact ⟨rfl, F1, F2⟩
  · refine Exists.elim (show ∃ z, z = v0.alloc (.cells #[.int .i64 (V (a * 4)), .int .i64 (V (a * 4 + 1)), .int .i64 (V (a * 4 + 2)), .int .i64 (V (a * 4 + 3)), .int .i64 (a : Int)] 55) from ⟨_, rfl⟩) (fun v0_2 hW_ => ?_)
    have zl_ : v0.heap.size < v0_2.heap.size := by rw [hW_]; simp
    have ba_ : Below v0.heap.size v0 v0_2 := by rw [hW_]; exact (by repeat (first | with_reducible exact Below.refl _ _ | with_reducible refine Below.setCell ?_ (by first | omega | (simp; done) | (simp; omega)) _ | with_reducible refine bDrewN ?_ _ | with_reducible refine Below.drew ?_ | with_reducible refine Below.alloc ?_ (by first | omega | (simp; done) | (simp; omega)) _))
    have HA_ : Hid (QAt X q v0_2 sh n V P) := HV.out.below ba_
    have TA_ : Hid (Turn X w v0_2) := TV.out.trans (Turn.grown ba_)
    have HXa_ : Hid (∀ b, v0_2.heap.size ≤ b → X b) := fun b hb => HXv.out b (Nat.le_trans ba_.size hb)
    have c1w : v0_2.cell? ⟨q, 1, none⟩ = some (.slice s n cap) := (ba_.cell (p := ⟨q, 1, none⟩) zqv).trans c1v
    have l0 : v0_2.cell? ⟨v0.heap.size, 0, none⟩ = some (.int .i64 (V (a * 4))) := by rw [hW_]; simp [go_sem]
    have l1 : v0_2.cell? ⟨v0.heap.size, 1, none⟩ = some (.int .i64 (V (a * 4 + 1))) := by rw [hW_]; simp [go_sem]
    have l2 : v0_2.cell? ⟨v0.heap.size, 2, none⟩ = some (.int .i64 (V (a * 4 + 2))) := by rw [hW_]; simp [go_sem]
    have l3 : v0_2.cell? ⟨v0.heap.size, 3, none⟩ = some (.int .i64 (V (a * 4 + 3))) := by rw [hW_]; simp [go_sem]
    have l4 : v0_2.cell? ⟨v0.heap.size, 4, none⟩ = some (.int .i64 (a : Int)) := by rw [hW_]; simp [go_sem]
    refine ready_val v0_2 (.slice (some ⟨v0.heap.size, 0, none⟩) 1 1) rfl (by kernel_rfl) ?_ (⟨Nat.zero_le _, Nat.zero_le _⟩) (fun hHeld => ?_) AllReadyH.nil
    · rw [hW_]; clear hW_; go_simp
    clear hW_
    simp only [Act.put, List.setIfInBounds_toArray, List.set_cons_zero, List.set_cons_succ]
    refine wpAnyH_ready (rs := [4]) (by kernel_rfl) (by simp) ?_
    have c1v : v0_2.cell? ⟨q, 1, none⟩ = some (.slice s n cap) := c1w
    refine ready_val v0_2 (.slice s n cap) rfl (by kernel_rfl) ?_ (⟨Nat.zero_le _, Nat.zero_le _⟩) (fun hHeld => ?_) AllReadyH.nil
    · go_simp
    simp only [Act.put, List.setIfInBounds_toArray, List.set_cons_zero, List.set_cons_succ]
    refine wpAnyH_ready (rs := [8]) (by kernel_rfl) (by simp) ?_
    refine ready_wp rfl (by kernel_rfl) (fun KK hK => ?_) AllReadyH.nil
    refine wp_placed 0 (.slice s n cap) n (vals (qF V P) (n * 5)) (.tmp 8) (.tmp 11) (by kernel_rfl) (by kernel_rfl) (HA_.out.row c1w) v0.heap.size (by kernel_rfl) l0 l1 l2 l3 l4 (by omega) (Nat.zero_le _) ?_
    intro g cap' v0_7 o_ g_ n_
    have GG := HA_.out.grow c1w HXa_.out o_ g_ n_
    have f1 := GG.1
    have f2 := GG.2.1
    have f3 := GG.2.2.1
    have FF : Hid (_ ∧ _) := GG.2.2.2.2
    clear GG o_ g_ n_
    refine hK.out _ _ (⟨Nat.zero_le _, Nat.zero_le _⟩) (fun hHeld => ?_)
    clear hK KK
    simp only [Act.put, List.setIfInBounds_toArray, List.set_cons_zero, List.set_cons_succ]
    refine wpAnyH_take (i := 9) (v := .pointer (some ⟨q, 0, none⟩)) rfl (by kernel_rfl) (by kernel_rfl) (by kernel_rfl) (fun _ _ _ h => h) (Or.inl ⟨by kernel_rfl, ?_⟩) hHeld ?_
    · intro w' hSw
      obtain ⟨s0, s1⟩ := hSw
      first | (go_simp; done) | (go_simp; with_reducible rfl) | (go_simp; rw [IntKind.wrap_i64]; omega) | (go_simp; omega)
    simp only [Act.put, List.setIfInBounds_toArray, List.set_cons_zero, List.set_cons_succ]
    refine wpAnyH_take (i := 10) (v := .pointer (some ⟨q, 1, none⟩)) rfl (by kernel_rfl) (by kernel_rfl) (by kernel_rfl) (fun _ _ _ h => h) (Or.inl ⟨by kernel_rfl, ?_⟩) hHeld ?_
    · intro w' hSw
      obtain ⟨s0, s1⟩ := hSw
      first | (go_simp; done) | (go_simp; with_reducible rfl) | (go_simp; rw [IntKind.wrap_i64]; omega) | (go_simp; omega)
    simp only [Act.put, List.setIfInBounds_toArray, List.set_cons_zero, List.set_cons_succ]
    refine wpAnyH_ready (rs := [11]) (by kernel_rfl) (by simp) ?_
    refine Exists.elim (show ∃ z, z = v0_7.setCell ⟨q, 1, none⟩ (.slice (some ⟨g, 0, none⟩) (n + 1) cap') from ⟨_, rfl⟩) (fun v0_8 hW_ => ?_)
    have F1 : QAt X q v0_8 sh (n + 1) V (pushP P n a) := by rw [hW_]; exact FF.out.1
    have F2 : Turn X w v0_8 := by rw [hW_]; exact TA_.out.trans FF.out.2
    refine ready_skp v0_8 rfl (by kernel_rfl) ?_ (⟨Nat.zero_le _, Nat.zero_le _⟩) (fun hHeld => ?_) AllReadyH.nil
    · rw [hW_]; clear hW_; go_simp
    clear hW_
    simp only [Act.put, List.setIfInBounds_toArray, List.set_cons_zero, List.set_cons_succ]
    refine wpAnyH_done (by kernel_rfl) ?_ _
    clear hHeld
    go_end0
    exact ⟨rfl, F1, F2⟩
end Go.Proofs.Ytcialcejmjggeaa
