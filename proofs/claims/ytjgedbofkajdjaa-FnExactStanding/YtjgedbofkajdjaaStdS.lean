/-
What is proved: the alarms that stand, as the specification tells them.
-/
import Derived.Test.YtjgedbofkajdjaaStd
import Derived.Test.YtjgedbofkajdjaaI64R2
namespace Go.Proofs.Ytjgedbofkajdjaa
set_option maxRecDepth 40000
open Go.ChangeShapes Go.WideShapes Go.ChangeAt Go.RowKit
set_option linter.unusedVariables false
set_option linter.unusedSimpArgs false

def stdL (x : Int) (n : Nat) (V : Nat → Int × Int × Int × Bool × Int) : List Int := if boardB x n V = true then stL V 1 n ++ stL V 2 n else []
/-- What is there ahead of the state q. -/
def stdQ (n : Nat) (V : Nat → Int × Int × Int × Bool × Int) : Nat → List Int
  | 0 => []
  | 1 => []
  | 2 => stL V 1 n
  | _ + 3 => stL V 1 n ++ stL V 2 n
theorem stdQ_le (n : Nat) (V : Nat → Int × Int × Int × Bool × Int) (q : Nat) : (stdQ n V q).length ≤ n + n := by
  have h1 := stL_le V 1 n
  have h2 := stL_le V 2 n
  rcases q with _ | _ | _ | q <;> simp [stdQ] <;> omega
theorem stdQ_on (n : Nat) (V : Nat → Int × Int × Int × Bool × Int) {q : Nat} (h1 : 1 ≤ q) (h2 : q ≤ 2) : stdQ n V (q + 1) = stdQ n V q ++ stL V q n := by
  rcases q with _ | _ | _ | q
  · omega
  · simp [stdQ]
  · simp [stdQ]
  · omega
theorem owns_mono {w : World} {base base' : Nat} {e : TypeId} {size : Nat} {v : Value} {n : Nat} {xs : List Value} (h : w.ownsRow base e size v n xs) (hb : base' ≤ base) : w.ownsRow base' e size v n xs :=
  ⟨h.1, h.2.imp id fun ⟨g, cap, cur, h1, h2, h3⟩ => ⟨g, cap, cur, h1, Nat.le_trans hb h2, h3⟩⟩
def StdPost (w : World) (l : List Int) (e : Ending) (w' : World) : Prop := ∃ s cap, e = .returned (.slice s l.length cap) ∧ OwnI w.heap.size w' s l.length (nthI l) ∧ Below w.heap.size w w'
theorem std_post {w wr : World} {v : Value} {l : List Int} (h : MadeL w.heap.size 0 0 w wr v l) : StdPost w l (.returned v) wr := by
  obtain ⟨s, cap, rfl, ho, -⟩ := madeL_own h
  exact ⟨s, cap, rfl, ho, h.2.1⟩
set_option maxRecDepth 20000 in
set_option maxHeartbeats 4000000 in
theorem specStanding_any (x : Int) (s : Option Addr) (n c : Nat) (V : Nat → Int × Int × Int × Bool × Int) (w : World) (hn : (n : Int) ≤ 1048576) (HR : Hid (RowAlarm w s n V)) :
    Calls Try.prog 15 #[.agg #[.int .i64 x, .slice s n c]] w fun e w' => StdPost w (stdL x n V) e w' := by
  go_enter Try.func15, Try.ntmps15
  go_wp2_with fail
  obtain ⟨wa, hwa⟩ : ∃ wa, wa = (w.alloc (.cells #[.int .i64 x, .slice s n c] 29)).alloc (.cells #[] 2) := ⟨_, rfl⟩
  rw [← hwa]
  have p1 : wa.cell? ⟨w.heap.size, 1, none⟩ = some (.slice s n c) := by rw [hwa]; simp [go_sem]
  have zp : w.heap.size + 1 < wa.heap.size := by rw [hwa]; simp
  have HM : Hid (MadeL (w.heap.size + 1) 0 0 (w.alloc (.cells #[.int .i64 x, .slice s n c] 29)) wa (.slice (some ⟨w.heap.size + 1, 0, none⟩) 0 0) []) := by
    rw [hwa]
    have := madeL_lit (b0 := 0) (base := w.heap.size + 1) (w.alloc (.cells #[.int .i64 x, .slice s n c] 29)) (by simp)
    exact (by simpa using this : MadeL (w.heap.size + 1) 0 0 (w.alloc (.cells #[.int .i64 x, .slice s n c] 29)) ((w.alloc (.cells #[.int .i64 x, .slice s n c] 29)).alloc (.cells #[] 2)) (.slice (some ⟨w.heap.size + 1, 0, none⟩) 0 0) [])
  have B0 : Below w.heap.size w wa := by rw [hwa]; exact (by repeat (first | with_reducible exact Below.refl _ _ | with_reducible refine Below.setCell ?_ (by first | omega | (simp; done) | (simp; omega)) _ | with_reducible refine bDrewN ?_ _ | with_reducible refine Below.drew ?_ | with_reducible refine Below.alloc ?_ (by first | omega | (simp; done) | (simp; omega)) _))
  clear hwa
  refine (specBoardOk_any x s n c V _ hn (HR.out.below B0)).mono ?_
  rintro e w1 ⟨rfl, h1⟩
  replace p1 := (h1.cell (p := ⟨w.heap.size, 1, none⟩) (show w.heap.size < wa.heap.size by omega)).trans p1
  replace HM : Hid (MadeL (w.heap.size + 1) 0 0 (w.alloc (.cells #[.int .i64 x, .slice s n c] 29)) w1 (.slice (some ⟨w.heap.size + 1, 0, none⟩) 0 0) []) := madeL_below HM.out h1 (by omega)
  replace zp := Nat.lt_of_lt_of_le zp h1.size
  replace B0 : Below w.heap.size w w1 := B0.trans (h1.mono B0.size)
  clear h1
  have HUP : Hid (∀ wr v l, MadeL (w.heap.size + 1) 0 0 (w.alloc (.cells #[.int .i64 x, .slice s n c] 29)) wr v l → MadeL w.heap.size 0 0 w wr v l) := fun wr v l h => ⟨owns_mono h.1 (by omega), (below0 w _).trans (h.2.1.mono (by omega)), h.2.2⟩
  cases h0 : boardB x n V
  · have HO : Hid (stdL x n V = []) := by show _ = _; unfold stdL; rw [h0]; rfl
    go_wp2
    go_ret
    exact (by rw [HO.out]; exact std_post (HUP.out _ _ _ HM.out))
  obtain ⟨-, n60, -⟩ := board_yes h0
  have hn2 : (n : Int) ≤ 60 := by omega
  have HF : Hid (stdL x n V = stdQ n V 3) := by show _ = _; unfold stdL; rw [h0]; rfl
  clear h0 hn
  go_wp2_with fail
  go_loopw [3, 4] (fun v i wr => ∃ q : Nat, 1 ≤ q ∧ q ≤ 3 ∧ i = .int .i64 q ∧ MadeL (w.heap.size + 1) 0 0 (w.alloc (.cells #[.int .i64 x, .slice s n c] 29)) wr v (stdQ n V q)) (fun _ i _ => 3 - (intOf i).toNat)
  case atStart => exact ⟨1, by omega, by omega, rfl, HM.out⟩
  case round =>
    obtain ⟨q, q1, q3, rfl, hM⟩ := hrel
    clear HM p1 zp B0
    have HM : Hid (MadeL (w.heap.size + 1) 0 0 (w.alloc (.cells #[.int .i64 x, .slice s n c] 29)) wr u3 (stdQ n V q)) := hM
    clear hM
    by_cases h1 : q ≤ 2
    · have k1 : (q : Int) ≤ 2 := by omega
      have hz0 := HM.out.2.1.size
      simp at hz0
      go_wp2_with fail
      rename World => wq
      go_loopw [3, 5] (fun v i wr => ∃ k : Nat, k ≤ n ∧ i = .int .i64 k ∧ MadeL (w.heap.size + 1) 0 0 (w.alloc (.cells #[.int .i64 x, .slice s n c] 29)) wr v (stdQ n V q ++ stL V q k)) (fun _ i _ => n - (intOf i).toNat)
      case atStart => exact ⟨0, Nat.zero_le _, rfl, by simpa [stL] using HM.out⟩
      case round =>
        obtain ⟨k, hk, rfl, hM⟩ := hrel
        clear HM
        have hl : (stdQ n V q ++ stL V q k).length ≤ n + n + k := by have := stdQ_le n V q; have := stL_le V q k; simp; omega
        obtain ⟨l, hL⟩ : ∃ l, stdQ n V q ++ stL V q k = l := ⟨_, rfl⟩
        rw [hL] at hM hl
        have HL : Hid (stdQ n V q ++ stL V q k = l) := hL
        clear hL
        have HM : Hid (MadeL (w.heap.size + 1) 0 0 (w.alloc (.cells #[.int .i64 x, .slice s n c] 29)) wr u3 l) := hM
        obtain ⟨hown, hB', -⟩ := hM
        have HO : Hid (wr.ownsRow (w.heap.size + 1) 2 1 u3 l.length (cellsOf l)) := hown
        have zB := hB'.size
        simp at zB
        have p1 : wr.cell? ⟨w.heap.size, 1, none⟩ = some (.slice s n c) := (hB'.cell (p := ⟨w.heap.size, 1, none⟩) (by show w.heap.size < _; omega)).trans (by simp [go_sem])
        have hB : Below w.heap.size w wr := (below0 w _).trans (hB'.mono (by omega))
        clear hown hB'
        by_cases h2 : k < n
        · obtain ⟨g, o, rfl, hg, c0, c1, c2, c3, c4⟩ := HR.out k (by omega)
          replace c0 := (hB.cell (p := ⟨g, o + k * 5, none⟩) hg).trans c0
          replace c1 := (hB.cell (p := ⟨g, o + k * 5 + 1, none⟩) hg).trans c1
          replace c2 := (hB.cell (p := ⟨g, o + k * 5 + 2, none⟩) hg).trans c2
          replace c3 := (hB.cell (p := ⟨g, o + k * 5 + 3, none⟩) hg).trans c3
          replace c4 := (hB.cell (p := ⟨g, o + k * 5 + 4, none⟩) hg).trans c4
          have zg : g < wr.heap.size := Nat.lt_of_lt_of_le hg hB.size
          obtain ⟨⟨G, O, T, F, U⟩, hV⟩ : ∃ z, V k = z := ⟨_, rfl⟩
          rw [hV] at c0 c1 c2 c3 c4
          simp only at c0 c1 c2 c3 c4
          have HV : Hid (V k = (G, O, T, F, U)) := hV
          have k2 : (k : Int) < (n : Int) := by omega
          clear hV hg
          by_cases e : T = q
          · subst e
            have E : Hid (stdQ n V q ++ stL V q (k + 1) = l ++ [(k : Int)]) := by show _ = _; rw [stL_yes (by rw [HV.out]), ← HL.out, List.append_assoc]
            go_wp2_with (at_builtin; refine list_i64h (w.heap.size + 1) u3 l.length (cellsOf l) (.tmp 30) (.tmp 32) (by rfl) (by rfl) (by rfl) (by rfl) HO.out (by omega) (by omega) ?_; intro g' cap' w3 hown3 hgrow3 hlt3 hat3)
            go_roundw
            case rel => exact ⟨k + 1, by omega, by go_num, by rw [E.out]; exact madeL_on HM.out (Below.refl _ _) (by omega) (by omega) hown3 hgrow3 hat3⟩
            case measure => first | (simp [intOf]; done) | (simp [intOf]; omega)
          · have e' : (T == (q : Int)) = false := by simpa using e
            have E : Hid (stdQ n V q ++ stL V q (k + 1) = l) := by show _ = _; rw [stL_no (by rw [HV.out]; exact e), HL.out]
            clear e
            go_wp2
            go_roundw
            case rel => exact ⟨k + 1, by omega, by go_num, by rw [E.out]; exact HM.out⟩
            case measure => first | (simp [intOf]; done) | (simp [intOf]; omega)
        · obtain rfl : k = n := by omega
          have E : Hid (stdQ k V (q + 1) = l) := (stdQ_on k V q1 h1).trans HL.out
          go_wp2
          go_roundw
          case rel => exact ⟨q + 1, by omega, by omega, by go_num, by rw [E.out]; exact HM.out⟩
          case measure => first | (simp [intOf]; done) | (simp [intOf]; omega)
    · obtain rfl : q = 3 := by omega
      go_wp2
      go_ret
      exact (by rw [HF.out]; exact std_post (HUP.out _ _ _ HM.out))
end Go.Proofs.Ytjgedbofkajdjaa
