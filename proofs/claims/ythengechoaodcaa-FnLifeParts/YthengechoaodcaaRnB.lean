/-
What is proved: how far two turnings are apart, as both packages tell it; the turnings of a course are within its bounds; a list of swings that is owned.
-/
import Derived.Test.YthengechoaodcaaRnL
import Derived.Test.YthengechoaodcaaTurnC
import Derived.Test.YthengechoaodcaaSwg
import Derived.Deep.RegionHeld3
import Derived.Deep.DeepCutAuto
namespace Go.Proofs.Ythengechoaodcaa
set_option maxRecDepth 40000
open Go.ChangeShapes Go.WideShapes Go.ChangeAt Go.RowKit
set_option linter.unusedVariables false
set_option linter.unusedSimpArgs false

theorem rests_mem (V : Nat → Int) : ∀ k x, x ∈ rests V k → ∃ j, j < k ∧ x = V j
  | 0, x, h => by simp [rests] at h
  | k + 1, x, h => by
    unfold rests at h
    split at h
    · rw [List.mem_append] at h
      rcases h with h | h
      · obtain ⟨j, h1, h2⟩ := rests_mem V k x h; exact ⟨j, by omega, h2⟩
      · rw [List.mem_singleton] at h; exact ⟨k, by omega, h⟩
    · obtain ⟨j, h1, h2⟩ := rests_mem V k x h; exact ⟨j, by omega, h2⟩
theorem turns_mem (m : Nat) (U : Nat → Int) : ∀ k x, x ∈ turns m U k → ∃ j, j < k ∧ x = U j
  | 0, x, h => by simp [turns] at h
  | k + 1, x, h => by
    unfold turns at h
    split at h
    · rw [List.mem_append] at h
      rcases h with h | h
      · obtain ⟨j, h1, h2⟩ := turns_mem m U k x h; exact ⟨j, by omega, h2⟩
      · rw [List.mem_singleton] at h; exact ⟨k, by omega, h⟩
    · obtain ⟨j, h1, h2⟩ := turns_mem m U k x h; exact ⟨j, by omega, h2⟩
theorem turnL_bd (n : Nat) (V : Nat → Int) : Bd 100000 (turnL n V) := by
  intro x hx
  unfold turnL at hx
  split at hx
  · rename_i hc
    obtain ⟨j, h1, rfl⟩ := turns_mem _ _ _ _ hx
    have : nthI (rests V n) j ∈ rests V n := by
      unfold nthI
      rw [List.getD_eq_getElem?_getD, List.getElem?_eq_getElem h1]; exact List.getElem_mem h1
    obtain ⟨i, h3, h4⟩ := rests_mem V n _ this
    rw [h4]
    unfold courseB allInB at hc
    simp only [Bool.and_eq_true, decide_eq_true_eq] at hc
    exact hc.2 i h3
  · simp at hx
theorem turnL_400 (n : Nat) (V : Nat → Int) : (turnL n V).length ≤ 400 := by
  by_cases h : courseB n V = true
  · have := turnL_le n V
    unfold courseB at h
    simp only [Bool.and_eq_true, decide_eq_true_eq] at h
    omega
  · unfold turnL; rw [if_neg h]; simp
set_option maxHeartbeats 1000000 in
theorem l5Apart_any (a b : Int) (w : World) (ha : -100000 ≤ a ∧ a ≤ 100000) (hb : -100000 ≤ b ∧ b ≤ 100000) : Calls Try.prog 36 #[.int .i64 a, .int .i64 b] w fun e w' => e = .returned (.int .i64 (apt a b)) ∧ w' = w := by
  by_cases h : a < b
  · have E : apt a b = b - a := by unfold apt; rw [if_pos h]
    have q : a - b < b - a := by omega
    rw [E]
    clear E
    go_enter Try.func36, Try.ntmps36
    go_wp2
    go_ret
    exact ⟨rfl, rfl⟩
  · have E : apt a b = a - b := by unfold apt; rw [if_neg h]
    have q : ¬ (a - b < b - a) := by omega
    rw [E]
    clear E
    go_enter Try.func36, Try.ntmps36
    go_wp2
    go_ret
    exact ⟨rfl, rfl⟩
set_option maxHeartbeats 1000000 in
theorem swingOf_any (h a b : Int) (w : World) (ha : -100000 ≤ a ∧ a ≤ 100000) (hb : -100000 ≤ b ∧ b ≤ 100000) : Calls Try.prog 40 #[.int .i64 h, .int .i64 a, .int .i64 b] w fun e w' => e = .returned (.agg #[.int .i64 (apt a b), .int .i64 h]) ∧ Below w.heap.size w w' := by
  by_cases q : a < b
  · have E : apt a b = b - a := by unfold apt; rw [if_pos q]
    have q2 : ¬ b < a := by omega
    rw [E]
    clear E
    go_enter Try.func40, Try.ntmps40
    go_wp2
    exact bodyPost_ret (v := .agg #[.int .i64 (b - a), .int .i64 h]) (by simp [results, Try.results40, go_sem]) rfl ⟨rfl, (by repeat (first | with_reducible exact Below.refl _ _ | with_reducible refine Below.setCell ?_ (by first | omega | (simp; done) | (simp; omega)) _ | with_reducible refine bDrewN ?_ _ | with_reducible refine Below.drew ?_ | with_reducible refine Below.alloc ?_ (by first | omega | (simp; done) | (simp; omega)) _))⟩
  · have E : apt a b = a - b := by unfold apt; rw [if_neg q]
    rw [E]
    clear E
    by_cases q2 : b < a
    · go_enter Try.func40, Try.ntmps40
      go_wp2
      exact bodyPost_ret (v := .agg #[.int .i64 (a - b), .int .i64 h]) (by simp [results, Try.results40, go_sem]) rfl ⟨rfl, (by repeat (first | with_reducible exact Below.refl _ _ | with_reducible refine Below.setCell ?_ (by first | omega | (simp; done) | (simp; omega)) _ | with_reducible refine bDrewN ?_ _ | with_reducible refine Below.drew ?_ | with_reducible refine Below.alloc ?_ (by first | omega | (simp; done) | (simp; omega)) _))⟩
    · obtain rfl : a = b := by omega
      go_enter Try.func40, Try.ntmps40
      go_wp2
      exact bodyPost_ret (v := .agg #[.int .i64 0, .int .i64 h]) (by simp [results, Try.results40, go_sem]) rfl ⟨rfl, (by repeat (first | with_reducible exact Below.refl _ _ | with_reducible refine Below.setCell ?_ (by first | omega | (simp; done) | (simp; omega)) _ | with_reducible refine bDrewN ?_ _ | with_reducible refine Below.drew ?_ | with_reducible refine Below.alloc ?_ (by first | omega | (simp; done) | (simp; omega)) _))⟩
theorem own_Swing {w : World} {base : Nat} {v : Value} {l : List (Int × Int)} (h : w.ownsRow base 36 2 v l.length (swC l)) : ∃ s cap, v = .slice s l.length cap ∧ OwnSwing base w s l.length (fun j => l.getD j (0, 0)) := by
  rcases h.2 with ⟨rfl, h0⟩ | ⟨g, cap, cur, rfl, hb, hg, _, _, _, _⟩
  · exact ⟨none, 0, by rw [h0], fun j hj => by omega⟩
  · refine ⟨some ⟨g, 0, none⟩, cap, rfl, fun j hj => ?_⟩
    have c := swC_at l j hj
    refine ⟨g, rfl, hb, (Array.getElem?_eq_some_iff.1 hg).1, fun o => h.frozenAt o, ?_, ?_⟩
    · rw [h.cellAt (j * 2) (by omega)]; exact c.1
    · rw [h.cellAt (j * 2 + 1) (by omega)]; exact c.2
def RainP (w : World) (L : List (Int × Int)) (e : Ending) (w' : World) : Prop := ∃ s' c', e = .returned (.slice s' L.length c') ∧ OwnSwing w.heap.size w' s' L.length (fun j => L.getD j (0, 0)) ∧ Below w.heap.size w w'
theorem own_cells {w : World} {base : Nat} {v : Value} {l : List Int} (h : w.ownsRow base 2 1 v l.length (cellsOf l)) (h0 : 0 < l.length) : ∃ g cap, v = .slice (some ⟨g, 0, none⟩) l.length cap ∧ l.length ≤ cap ∧ base ≤ g ∧ g < w.heap.size ∧ ∀ j, j < l.length → w.cell? ⟨g, j, none⟩ = some (.int .i64 (nthI l j)) := by
  rcases h.2 with ⟨_, q⟩ | ⟨g, cap, cur, e1, hb, hg, hc, hm, hz, ht⟩
  · omega
  · refine ⟨g, cap, e1, hc, hb, (Array.getElem?_eq_some_iff.1 hg).1, fun j hj => ?_⟩
    subst e1
    rw [h.cellAt j (by omega), ← vals_nth, vals_at _ hj]
theorem rnw_cell {w W : World} {H : Nat} {st : Option Addr} {T s : List Int} {vo : Value} {o : List (Int × Int)} {g N cap : Nat} (h : RnW w H st T W (.slice (some ⟨g, 0, none⟩) N cap) vo s o) (j : Nat) (hj : j < s.length) : W.cell? ⟨g, j, none⟩ = some (.int .i64 (nthI s j)) := by
  obtain ⟨g', cap', e, _, _, _, hc⟩ := own_cells h.2.2.2.2.2.1 (by omega)
  cases e
  exact hc j hj
theorem news_two {W : World} {lb : Nat} {a b : Value} (h0 : W.cell? ⟨lb, 0, none⟩ = some a) (h1 : W.cell? ⟨lb, 1, none⟩ = some b) : ∀ j u, [a, b][j]? = some u → W.cell? ((⟨lb, 0, none⟩ : Addr).add j) = some u := fun j u hu => by
  rw [Addr.add_lit, Nat.zero_add]
  match j, hu with
  | 0, hu => cases hu; exact h0
  | 1, hu => cases hu; exact h1
theorem news_one {W : World} {lb : Nat} {a : Value} (h0 : W.cell? ⟨lb, 0, none⟩ = some a) : ∀ j u, [a][j]? = some u → W.cell? ((⟨lb, 0, none⟩ : Addr).add j) = some u := fun j u hu => by
  rw [Addr.add_lit, Nat.zero_add]
  match j, hu with
  | 0, hu => cases hu; exact h0
def lenR : Value → Nat
  | .slice _ n _ => n
  | _ => 0
theorem own_low {w : World} {b b2 : Nat} {t : TypeId} {s : Nat} {v : Value} {n : Nat} {xs : List Value} (h : w.ownsRow b2 t s v n xs) (hb : b ≤ b2) : w.ownsRow b t s v n xs := by
  refine ⟨h.1, ?_⟩
  rcases h.2 with q | ⟨g, cap, cur, e1, h1, r⟩
  · exact .inl q
  · exact .inr ⟨g, cap, cur, e1, by omega, r⟩
theorem news_row {W : World} {g m : Nat} {F : Nat → Int} (h : ∀ j, j < m → W.cell? ⟨g, j, none⟩ = some (.int .i64 (F j))) : ∀ j u, (vals F m)[j]? = some u → W.cell? ((⟨g, 0, none⟩ : Addr).add j) = some u := fun j u hu => by
  have hj : j < m := by
    rcases Nat.lt_or_ge j m with q | q
    · exact q
    · rw [List.getElem?_eq_none (by rw [vals_length]; exact q)] at hu; cases hu
  rw [vals_at F hj] at hu
  cases hu
  rw [Addr.add_lit, Nat.zero_add]
  exact h j hj
theorem vals_one (F : Nat → Int) (m : Nat) : ∀ u ∈ vals F m, u.oneCell' = true := by
  intro u hu
  simp only [vals, List.mem_map] at hu
  obtain ⟨j, _, rfl⟩ := hu
  rfl
theorem cut_small {s : List Int} (h : ¬ 2 < s.length) : cutS s = none := by unfold cutS; rw [if_pos (by omega)]
theorem cut_stay {s : List Int} {m : Nat} (h : s.length = m + 3) (q : apt (nthI s (m + 2)) (nthI s (m + 1)) < apt (nthI s (m + 1)) (nthI s m)) : cutS s = none := by
  unfold cutS
  rw [if_neg (by omega), h, show m + 3 - 1 = m + 2 by omega, show m + 3 - 2 = m + 1 by omega, show m + 3 - 3 = m by omega, if_pos q]
theorem cut_three {s : List Int} (h : s.length = 0 + 3) (q : ¬ apt (nthI s (0 + 2)) (nthI s (0 + 1)) < apt (nthI s (0 + 1)) (nthI s 0)) : cutS s = some ([nthI s 1, nthI s 2], (apt (nthI s (0 + 1)) (nthI s 0), 1)) := by
  unfold cutS
  rw [if_neg (by omega), h, if_neg q, if_pos rfl]
theorem cut_more {s : List Int} {m : Nat} (h : s.length = m + 3) (hm : 0 < m) (q : ¬ apt (nthI s (m + 2)) (nthI s (m + 1)) < apt (nthI s (m + 1)) (nthI s m)) : cutS s = some (s.take m ++ [nthI s (m + 2)], (apt (nthI s (m + 1)) (nthI s m), 2)) := by
  unfold cutS
  rw [if_neg (by omega), h, show m + 3 - 1 = m + 2 by omega, show m + 3 - 2 = m + 1 by omega, show m + 3 - 3 = m by omega, if_neg q, if_neg (by omega)]
theorem cells_take (s : List Int) (m : Nat) (hm : m ≤ s.length) : vals (nthI s) m = cellsOf (s.take m) := by
  rw [← vals_nth, List.length_take, Nat.min_eq_left hm]
  exact vals_congr fun j hj => (nthI_take s m j hj).symm
end Go.Proofs.Ythengechoaodcaa
