/-
What is proved: the places of the alarms in a state, as a list, and as the program makes it.
-/
import Derived.Test.YtjgedbofkajdjaaBdS
import Derived.Test.YtjgedbofkajdjaaOwnL
namespace Go.Proofs.Ytjgedbofkajdjaa
set_option maxRecDepth 40000
open Go.ChangeShapes Go.WideShapes Go.ChangeAt Go.RowKit
set_option linter.unusedVariables false
set_option linter.unusedSimpArgs false

/-- The places, among the first k, of those in the state t. -/
def stL (V : Nat → Int × Int × Int × Bool × Int) (t : Int) : Nat → List Int
  | 0 => []
  | k + 1 => if (V k).2.2.1 = t then stL V t k ++ [(k : Int)] else stL V t k
theorem stL_le (V : Nat → Int × Int × Int × Bool × Int) (t : Int) (k : Nat) : (stL V t k).length ≤ k := by
  induction k with
  | zero => simp [stL]
  | succ k ih =>
    simp only [stL]
    split
    · simp; omega
    · omega
theorem stL_yes {V : Nat → Int × Int × Int × Bool × Int} {t : Int} {k : Nat} (h : (V k).2.2.1 = t) : stL V t (k + 1) = stL V t k ++ [(k : Int)] := by simp [stL, h]
theorem stL_no {V : Nat → Int × Int × Int × Bool × Int} {t : Int} {k : Nat} (h : ¬ (V k).2.2.1 = t) : stL V t (k + 1) = stL V t k := by simp [stL, h]
theorem madeL_below {base b0 H : Nat} {w wr w1 : World} {v : Value} {l : List Int} (h : MadeL base b0 H w wr v l) (hb : Below wr.heap.size wr w1) (hz : base ≤ wr.heap.size) : MadeL base b0 H w w1 v l :=
  ⟨own_same h.1 (fun g hg => hb.block g (by have := h.1.2; rcases this with ⟨q, _⟩ | ⟨g', cap, cur, e1, _, hg', _⟩
                                            · rw [q] at hg; simp [Value.ownBlock] at hg
                                            · rw [e1] at hg
                                              have : g' = g := by simpa [Value.ownBlock] using hg
                                              subst this
                                              rcases Nat.lt_or_ge g' wr.heap.size with z | z
                                              · exact z
                                              · rw [Array.getElem?_eq_none z] at hg'; cases hg')), h.2.1.trans (hb.mono hz), h.2.2⟩
set_option maxRecDepth 20000 in
set_option maxHeartbeats 4000000 in
theorem placesIn_any (x : Int) (s : Option Addr) (n c : Nat) (V : Nat → Int × Int × Int × Bool × Int) (t : Int) (w : World) (hn : (n : Int) ≤ 60) (HR : Hid (RowAlarm w s n V)) :
    Calls Try.prog 43 #[.agg #[.int .i64 x, .slice s n c], .int .i64 t] w fun e w' => ∃ v, e = .returned v ∧ MadeL w.heap.size 0 0 w w' v (stL V t n) ∧ (stL V t n = [] → v = .slice none 0 0) := by
  go_enter Try.func43, Try.ntmps43
  go_wp2_with fail
  go_loopw [5, 11] (fun v i wr => ∃ k : Nat, k ≤ n ∧ i = .int .i64 k ∧ MadeL w.heap.size 0 0 w wr v (stL V t k) ∧ Hid (stL V t k = [] → v = .slice none 0 0)) (fun _ i _ => n - (intOf i).toNat)
  case atStart => exact ⟨0, Nat.zero_le _, rfl, madeL_below (madeL_nil w) (by repeat (first | with_reducible exact Below.refl _ _ | with_reducible refine Below.setCell ?_ (by first | omega | (simp; done) | (simp; omega)) _ | with_reducible refine bDrewN ?_ _ | with_reducible refine Below.drew ?_ | with_reducible refine Below.alloc ?_ (by first | omega | (simp; done) | (simp; omega)) _)) (Nat.le_refl _), fun _ => rfl⟩
  case round =>
    obtain ⟨k, hk, rfl, hM, HN⟩ := hrel
    have HM : Hid (MadeL w.heap.size 0 0 w wr u5 (stL V t k)) := hM
    obtain ⟨hown, hB, -⟩ := hM
    have HO : Hid (wr.ownsRow w.heap.size 2 1 u5 (stL V t k).length (cellsOf (stL V t k))) := hown
    have hl := stL_le V t k
    have zB := hB.size
    clear hown
    by_cases h1 : k < n
    · obtain ⟨g, o, rfl, hg, c0, c1, c2, c3, c4⟩ := HR.out k (by omega)
      replace c0 := (hB.cell (p := ⟨g, o + k * 5, none⟩) hg).trans c0
      replace c1 := (hB.cell (p := ⟨g, o + k * 5 + 1, none⟩) hg).trans c1
      replace c2 := (hB.cell (p := ⟨g, o + k * 5 + 2, none⟩) hg).trans c2
      replace c3 := (hB.cell (p := ⟨g, o + k * 5 + 3, none⟩) hg).trans c3
      replace c4 := (hB.cell (p := ⟨g, o + k * 5 + 4, none⟩) hg).trans c4
      have zg : g < wr.heap.size := Nat.lt_of_lt_of_le hg hB.size
      obtain ⟨⟨G, O, T, F, U⟩, hV⟩ : ∃ z, V k = z := ⟨_, rfl⟩
      rw [hV] at c0 c1 c2 c3 c4
      simp only at c0 c1 c2 c3 c4
      have HV : Hid (V k = (G, O, T, F, U)) := hV
      have k1 : (k : Int) < (n : Int) := by omega
      clear hV hg
      by_cases e : T = t
      · subst e
        have E : Hid (stL V T (k + 1) = stL V T k ++ [(k : Int)]) := stL_yes (by rw [HV.out])
        go_upto_region 5 with fail
        obtain ⟨wa, hwa⟩ : ∃ wa, wa = wr.alloc (.cells #[.int .i64 G, .int .i64 O, .int .i64 T, .bool F, .int .i64 U] 69) := ⟨_, rfl⟩
        rw [← hwa]
        have a2 : wa.cell? ⟨wr.heap.size, 2, none⟩ = some (.int .i64 T) := by rw [hwa]; simp [go_sem]
        have HX : Hid (Below wr.heap.size wr wa) := by rw [hwa]; exact below0 _ _
        have HOA : Hid (wa.ownsRow w.heap.size 2 1 u5 (stL V T k).length (cellsOf (stL V T k))) := by rw [hwa]; exact HO.out.alloc _
        have zA : wr.heap.size < wa.heap.size := by rw [hwa]; simp
        clear hwa
        go_wp2_with (at_builtin; refine list_i64h w.heap.size u5 (stL V T k).length (cellsOf (stL V T k)) (.tmp 20) (.tmp 22) (by rfl) (by rfl) (by rfl) (by rfl) HOA.out (by omega) (by omega) ?_; intro g' cap' w3 hown3 hgrow3 hlt3 hat3)
        go_roundw
        case rel => exact ⟨k + 1, by omega, by go_num, by rw [E.out]; exact madeL_on HM.out HX.out (by omega) (by omega) hown3 hgrow3 hat3, fun q => by rw [E.out] at q; simp at q⟩
        case measure => first | (simp [intOf]; done) | (simp [intOf]; omega)
      · have e' : (T == t) = false := by simpa using e
        have E : Hid (stL V t (k + 1) = stL V t k) := stL_no (by rw [HV.out]; exact e)
        clear e
        go_wp2
        go_roundw
        case rel => exact ⟨k + 1, by omega, by go_num, by rw [E.out]; exact madeL_below HM.out (below0 _ _) (by omega), by rw [E.out]; exact HN.out⟩
        case measure => first | (simp [intOf]; done) | (simp [intOf]; omega)
    · obtain rfl : k = n := by omega
      go_wp2
      go_ret
      exact ⟨_, rfl, HM.out, HN.out⟩
end Go.Proofs.Ytjgedbofkajdjaa
