/-
What is proved: lists of clocks and of notes that grow by an append; the notes of a step in numbers.
-/
import Derived.Test.YtmoeoepinlcmdaaDoorCk
import Derived.Test.YtmoeoepinlcmdaaDoorOwnV
namespace Go.Proofs.YtmoeoepinlcmdaaDoor
set_option maxRecDepth 40000
open Go.ChangeShapes Go.WideShapes Go.ChangeAt Go.RowKit
set_option linter.unusedVariables false
set_option linter.unusedSimpArgs false

theorem newsTwoC (W : World) (a b : Value) (t : TypeId) : ∀ j u, [a, b][j]? = some u → (W.alloc (.cells #[a, b] t)).cell? ((⟨W.heap.size, 0, none⟩ : Addr).add j) = some u := World.news_of_block (cs := #[a, b]) (heap_alloc_new W _)
theorem info_Clock : (Tryd.prog.info? 29).map (fun i => (i.zero, i.size, i.bytes)) = some (some (.agg #[.int .i64 0, .bool false]), 2, 16) := by kernel_rfl
theorem list_Clock {ops : Array Oper} {rest : List Oper} {o : Oper} {a : Act} {Q : Exit → Act → World → Prop} {W : World} {t : TypeId} {x0 : Int} {x1 : Bool} (base : Nat) (v : Value) (k : Nat) (xs : List Value) (s q : Operand) (hgd : o.guard = none)
    (ho : o.op = .call { callee := .builtin .append, args := #[s, q], argTypes := #[25, 25] }) (hs : a.eval s = v) (hx : a.eval q = .slice (some ⟨W.heap.size, 0, none⟩) 1 1) (hown : W.ownsRow base 29 2 v k xs) (hk : k ≤ 1000000) (hb : base ≤ W.heap.size)
    (h : ∀ g cap w', w'.ownsRow base 29 2 (.slice (some ⟨g, 0, none⟩) (k + 1) cap) (k + 1) (xs ++ [.int .i64 x0, .bool x1]) → W.grownBy w' v.ownBlock → g < w'.heap.size → (v.ownBlock = some g ∨ W.heap.size < g) → wpList Tryd.prog ops Q rest (a.put o.dst (.slice (some ⟨g, 0, none⟩) (k + 1) cap)) w') :
    wpList Tryd.prog ops Q (o :: rest) a (W.alloc (.cells #[.int .i64 x0, .bool x1] t)) := by
  obtain ⟨i0, hi, hz0, hz1, hz2⟩ := info_parts info_Clock
  refine wpList_append_lies _ hgd s q 25 ho base 29 i0 (.agg #[.int .i64 0, .bool false]) 2 16 Tryd.underlying25 hi hz0 hz1 hz2 rfl (by decide) v k xs hs (hown.alloc _) ⟨W.heap.size, 0, none⟩ 1 1 [.int .i64 x0, .bool x1] hx rfl (newsTwoC _ _ _ _) ?_ (by decide) (by unfold maxLen; omega) (by omega) (by simp; omega) _ rfl ?_
  · intro u hu
    simp at hu
    rcases hu with rfl | rfl <;> rfl
  · intro g cap w' h1 h2 h4 h3
    refine h g cap w' h1 (grown_new h2) h3 ?_
    rcases h4 with h4 | h4
    · exact .inl h4
    · right; rw [h4]; simp
theorem info_Note : (Tryd.prog.info? 36).map (fun i => (i.zero, i.size, i.bytes)) = some (some (.agg #[.int .i64 0, .int .i64 0]), 2, 16) := by kernel_rfl
theorem list_Note {ops : Array Oper} {rest : List Oper} {o : Oper} {a : Act} {Q : Exit → Act → World → Prop} {W : World} {t : TypeId} {x0 : Int} {x1 : Int} (base : Nat) (v : Value) (k : Nat) (xs : List Value) (s q : Operand) (hgd : o.guard = none)
    (ho : o.op = .call { callee := .builtin .append, args := #[s, q], argTypes := #[30, 30] }) (hs : a.eval s = v) (hx : a.eval q = .slice (some ⟨W.heap.size, 0, none⟩) 1 1) (hown : W.ownsRow base 36 2 v k xs) (hk : k ≤ 1000000) (hb : base ≤ W.heap.size)
    (h : ∀ g cap w', w'.ownsRow base 36 2 (.slice (some ⟨g, 0, none⟩) (k + 1) cap) (k + 1) (xs ++ [.int .i64 x0, .int .i64 x1]) → W.grownBy w' v.ownBlock → g < w'.heap.size → (v.ownBlock = some g ∨ W.heap.size < g) → wpList Tryd.prog ops Q rest (a.put o.dst (.slice (some ⟨g, 0, none⟩) (k + 1) cap)) w') :
    wpList Tryd.prog ops Q (o :: rest) a (W.alloc (.cells #[.int .i64 x0, .int .i64 x1] t)) := by
  obtain ⟨i0, hi, hz0, hz1, hz2⟩ := info_parts info_Note
  refine wpList_append_lies _ hgd s q 30 ho base 36 i0 (.agg #[.int .i64 0, .int .i64 0]) 2 16 Tryd.underlying30 hi hz0 hz1 hz2 rfl (by decide) v k xs hs (hown.alloc _) ⟨W.heap.size, 0, none⟩ 1 1 [.int .i64 x0, .int .i64 x1] hx rfl (newsTwoC _ _ _ _) ?_ (by decide) (by unfold maxLen; omega) (by omega) (by simp; omega) _ rfl ?_
  · intro u hu
    simp at hu
    rcases hu with rfl | rfl <;> rfl
  · intro g cap w' h1 h2 h4 h3
    refine h g cap w' h1 (grown_new h2) h3 ?_
    rcases h4 with h4 | h4
    · exact .inl h4
    · right; rw [h4]; simp
/-- Does a limit count? -/
def cntC (V : Nat → Int × Int) (O : Nat → Bool) (mo : Int) (j : Nat) : Bool := O j && bitM (V j).1 mo
def nxC (V : Nat → Int × Int) (U : Nat → Int × Bool) (O : Nat → Bool) (mo : Int) (j : Nat) : Int × Bool := nxtC (V j).2 (U j).1 (cntC V O mo j)
def whC (V : Nat → Int × Int) (U : Nat → Int × Bool) (O : Nat → Bool) (mo : Int) (j : Nat) : Int := whtC (V j).2 (U j).1 (cntC V O mo j)
def ckL (U : Nat → Int × Bool) : Nat → List Value
  | 0 => []
  | k + 1 => ckL U k ++ [.int .i64 (U k).1, .bool (U k).2]
def ntP (W : Nat → Int) : Nat → List (Int × Int)
  | 0 => []
  | k + 1 => if W k = 0 then ntP W k else ntP W k ++ [((k : Int), W k)]
def ntC : List (Int × Int) → List Value
  | [] => []
  | p :: r => .int .i64 p.1 :: .int .i64 p.2 :: ntC r
theorem ntC_app (a b : List (Int × Int)) : ntC (a ++ b) = ntC a ++ ntC b := by
  induction a with
  | nil => rfl
  | cons p r ih => show _ :: _ :: ntC (r ++ b) = _ :: _ :: (ntC r ++ ntC b); rw [ih]
theorem ntC_at : ∀ (l : List (Int × Int)) (j : Nat), j < l.length → (ntC l)[j * 2]? = some (.int .i64 (l.getD j (0, 0)).1) ∧ (ntC l)[j * 2 + 1]? = some (.int .i64 (l.getD j (0, 0)).2)
  | [], j, h => by simp at h
  | p :: r, 0, _ => ⟨rfl, rfl⟩
  | p :: r, j + 1, h => by
    have := ntC_at r j (by simpa using h)
    rw [show (j + 1) * 2 = j * 2 + 1 + 1 by omega]
    exact this
theorem ntC_len : ∀ (l : List (Int × Int)), (ntC l).length = l.length * 2
  | [] => rfl
  | p :: r => by show (ntC r).length + 1 + 1 = (r.length + 1) * 2; rw [ntC_len r]; omega
theorem ntP_len (W : Nat → Int) : ∀ k, (ntP W k).length ≤ k
  | 0 => Nat.le_refl _
  | k + 1 => by
    have := ntP_len W k
    show (if W k = 0 then ntP W k else ntP W k ++ [((k : Int), W k)]).length ≤ _
    split
    · omega
    · simp; omega
theorem ckL_len (U : Nat → Int × Bool) : ∀ k, (ckL U k).length = k * 2
  | 0 => rfl
  | k + 1 => by simp [ckL, ckL_len U k]; omega
theorem ckL_at (U : Nat → Int × Bool) : ∀ k j, j < k → (ckL U k)[j * 2]? = some (.int .i64 (U j).1) ∧ (ckL U k)[j * 2 + 1]? = some (.bool (U j).2)
  | 0, j, h => by omega
  | k + 1, j, h => by
    rw [ckL]
    by_cases e : j = k
    · subst e
      rw [List.getElem?_append_right (by rw [ckL_len]; omega), List.getElem?_append_right (by rw [ckL_len]; omega), ckL_len, show j * 2 - j * 2 = 0 by omega, show j * 2 + 1 - j * 2 = 1 by omega]
      exact ⟨rfl, rfl⟩
    · rw [List.getElem?_append_left (by rw [ckL_len]; omega), List.getElem?_append_left (by rw [ckL_len]; omega)]
      exact ckL_at U k j (by omega)
theorem own_Clock {w : World} {base n : Nat} {v : Value} {U : Nat → Int × Bool} (h : w.ownsRow base 29 2 v n (ckL U n)) : ∃ s cap, v = .slice s n cap ∧ OwnClock base w s n U := by
  rcases h.2 with ⟨rfl, rfl⟩ | ⟨g, cap, cur, rfl, hb, hg, _, _, _, _⟩
  · exact ⟨none, 0, rfl, fun j hj => by omega⟩
  · refine ⟨some ⟨g, 0, none⟩, cap, rfl, fun j hj => ?_⟩
    have c := ckL_at U n j hj
    refine ⟨g, rfl, hb, (Array.getElem?_eq_some_iff.1 hg).1, fun o => h.frozenAt o, ?_, ?_⟩
    · rw [h.cellAt (j * 2) (by omega)]; exact c.1
    · rw [h.cellAt (j * 2 + 1) (by omega)]; exact c.2
theorem own_Note {w : World} {base : Nat} {v : Value} {l : List (Int × Int)} (h : w.ownsRow base 36 2 v l.length (ntC l)) : ∃ s cap, v = .slice s l.length cap ∧ OwnNote base w s l.length (fun j => l.getD j (0, 0)) := by
  rcases h.2 with ⟨rfl, h0⟩ | ⟨g, cap, cur, rfl, hb, hg, _, _, _, _⟩
  · exact ⟨none, 0, by rw [h0], fun j hj => by omega⟩
  · refine ⟨some ⟨g, 0, none⟩, cap, rfl, fun j hj => ?_⟩
    have c := ntC_at l j hj
    refine ⟨g, rfl, hb, (Array.getElem?_eq_some_iff.1 hg).1, fun o => h.frozenAt o, ?_, ?_⟩
    · rw [h.cellAt (j * 2) (by omega)]; exact c.1
    · rw [h.cellAt (j * 2 + 1) (by omega)]; exact c.2
end Go.Proofs.YtmoeoepinlcmdaaDoor
