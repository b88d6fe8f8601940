/-
What is proved: whether a drum is right, as both packages say it, for all int64s as its parts; how much heat is over.
-/
import Derived.Test.YtjiojofgpdimaaaWithin
import Derived.Deep.RegionHeld3
import Derived.Laws.StructEq
namespace Go.Proofs.Ytjiojofgpdimaaa
set_option maxRecDepth 40000
open Go.RowKit

/-- Whether a number of a drum is in its bounds; whether a drum is right. -/
abbrev inD (x : Int) : Prop := 0 ≤ x ∧ x ≤ 1000000000000
def drumB (x0 x1 x2 x3 x4 x5 x6 : Int) : Bool := decide (inD x0 ∧ inD x1 ∧ inD x2 ∧ inD x3 ∧ inD x4 ∧ inD x5 ∧ inD x6 ∧ x0 + x1 = x3 - x4 ∧ x2 = x5 - x6 ∧ (x1 = 0 ∨ 0 ≤ x2 - 20 * x0 - 30 * x1))
/-- The i-th of seven. -/
def dth (x0 x1 x2 x3 x4 x5 x6 : Int) (k : Nat) : Int := match k with | 0 => x0 | 1 => x1 | 2 => x2 | 3 => x3 | 4 => x4 | 5 => x5 | _ => x6
theorem drum_no {x0 x1 x2 x3 x4 x5 x6 : Int} {k : Nat} (_hk : k < 7) (hx : ¬ inD (dth x0 x1 x2 x3 x4 x5 x6 k)) : drumB x0 x1 x2 x3 x4 x5 x6 = false := by
  unfold drumB; rw [decide_eq_false_iff_not]
  rintro ⟨h0, h1, h2, h3, h4, h5, h6, _⟩
  match k with
  | 0 => exact hx h0
  | 1 => exact hx h1
  | 2 => exact hx h2
  | 3 => exact hx h3
  | 4 => exact hx h4
  | 5 => exact hx h5
  | m + 6 => exact hx h6
theorem drum_all {x0 x1 x2 x3 x4 x5 x6 : Int} (hx : ∀ j, j < 7 → inD (dth x0 x1 x2 x3 x4 x5 x6 j)) : inD x0 ∧ inD x1 ∧ inD x2 ∧ inD x3 ∧ inD x4 ∧ inD x5 ∧ inD x6 ∧ drumB x0 x1 x2 x3 x4 x5 x6 = decide (x0 + x1 = x3 - x4 ∧ x2 = x5 - x6 ∧ (x1 = 0 ∨ 0 ≤ x2 - 20 * x0 - 30 * x1)) := by
  have h0 := hx 0 (by omega); have h1 := hx 1 (by omega); have h2 := hx 2 (by omega); have h3 := hx 3 (by omega); have h4 := hx 4 (by omega); have h5 := hx 5 (by omega); have h6 := hx 6 (by omega)
  simp only [dth] at h0 h1 h2 h3 h4 h5 h6
  refine ⟨h0, h1, h2, h3, h4, h5, h6, ?_⟩
  unfold drumB; rw [Bool.eq_iff_iff, decide_eq_true_iff, decide_eq_true_iff]
  exact ⟨fun g => g.2.2.2.2.2.2.2, fun g => ⟨h0, h1, h2, h3, h4, h5, h6, g⟩⟩
theorem dth_succ {x0 x1 x2 x3 x4 x5 x6 : Int} {k : Nat} (hj : ∀ j, j < k → inD (dth x0 x1 x2 x3 x4 x5 x6 j)) (hx : inD (dth x0 x1 x2 x3 x4 x5 x6 k)) : ∀ j, j < k + 1 → inD (dth x0 x1 x2 x3 x4 x5 x6 j) := fun j hl => by
  by_cases e : j = k
  · rw [e]; exact hx
  · exact hj j (by omega)

set_option maxHeartbeats 400000 in
theorem l4Over_any (x0 x1 x2 x3 x4 x5 x6 : Int) (w : World) (h0 : 0 ≤ x0) (h0' : x0 ≤ 2000000000000) (h1 : 0 ≤ x1) (h1' : x1 ≤ 2000000000000) (h2 : 0 ≤ x2) (h2' : x2 ≤ 2000000000000) :
    Calls Try.prog 33 #[.agg #[.int .i64 x0, .int .i64 x1, .int .i64 x2, .int .i64 x3, .int .i64 x4, .int .i64 x5, .int .i64 x6]] w fun e w' => e = .returned (.int .i64 (x2 - 20 * x0 - 30 * x1)) ∧ Below w.heap.size w w' := by
  go_enter Try.func33, Try.ntmps33
  go_wp2
  go_ret
  exact ⟨ret_int (by omega), (by repeat (first | with_reducible exact Below.refl _ _ | with_reducible refine Below.setCell ?_ (by first | omega | (simp; done) | (simp; omega)) _ | with_reducible refine bDrewN ?_ _ | with_reducible refine Below.drew ?_ | with_reducible refine Below.alloc ?_ (by first | omega | (simp; done) | (simp; omega)) _))⟩
set_option maxHeartbeats 400000 in
theorem spare_any (x0 x1 x2 x3 x4 x5 x6 : Int) (w : World) (h0 : 0 ≤ x0) (h0' : x0 ≤ 2000000000000) (h1 : 0 ≤ x1) (h1' : x1 ≤ 2000000000000) (h2 : 0 ≤ x2) (h2' : x2 ≤ 2000000000000) :
    Calls Try.prog 31 #[.agg #[.int .i64 x0, .int .i64 x1, .int .i64 x2, .int .i64 x3, .int .i64 x4, .int .i64 x5, .int .i64 x6]] w fun e w' => e = .returned (.int .i64 (x2 - 20 * x0 - 30 * x1)) ∧ Below w.heap.size w w' := by
  go_enter Try.func31, Try.ntmps31
  go_wp2
  go_ret
  exact ⟨ret_int (by omega), (by repeat (first | with_reducible exact Below.refl _ _ | with_reducible refine Below.setCell ?_ (by first | omega | (simp; done) | (simp; omega)) _ | with_reducible refine bDrewN ?_ _ | with_reducible refine Below.drew ?_ | with_reducible refine Below.alloc ?_ (by first | omega | (simp; done) | (simp; omega)) _))⟩
set_option maxHeartbeats 400000 in
theorem held_any (x0 x1 x2 x3 x4 x5 x6 : Int) (w : World) (h0 : 0 ≤ x0) (h0' : x0 ≤ 2000000000000) (h1 : 0 ≤ x1) (h1' : x1 ≤ 2000000000000) :
    Calls Try.prog 29 #[.agg #[.int .i64 x0, .int .i64 x1, .int .i64 x2, .int .i64 x3, .int .i64 x4, .int .i64 x5, .int .i64 x6]] w fun e w' => e = .returned (.agg #[.int .i64 (x0 + x1), .int .i64 x2]) ∧ Below w.heap.size w w' := by
  go_enter Try.func29, Try.ntmps29
  go_wp2
  exact bodyPost_ret (v := .agg #[.int .i64 (x0 + x1), .int .i64 x2]) (by simp [results, Try.results29, go_sem]) rfl ⟨rfl, (by repeat (first | with_reducible exact Below.refl _ _ | with_reducible refine Below.setCell ?_ (by first | omega | (simp; done) | (simp; omega)) _ | with_reducible refine bDrewN ?_ _ | with_reducible refine Below.drew ?_ | with_reducible refine Below.alloc ?_ (by first | omega | (simp; done) | (simp; omega)) _))⟩
set_option maxHeartbeats 400000 in
theorem booked_any (x0 x1 x2 x3 x4 x5 x6 : Int) (w : World) (h3 : 0 ≤ x3) (h3' : x3 ≤ 2000000000000) (h4 : 0 ≤ x4) (h4' : x4 ≤ 2000000000000) (h5 : 0 ≤ x5) (h5' : x5 ≤ 2000000000000) (h6 : 0 ≤ x6) (h6' : x6 ≤ 2000000000000) :
    Calls Try.prog 30 #[.agg #[.int .i64 x0, .int .i64 x1, .int .i64 x2, .int .i64 x3, .int .i64 x4, .int .i64 x5, .int .i64 x6]] w fun e w' => e = .returned (.agg #[.int .i64 (x3 - x4), .int .i64 (x5 - x6)]) ∧ Below w.heap.size w w' := by
  go_enter Try.func30, Try.ntmps30
  go_wp2
  exact bodyPost_ret (v := .agg #[.int .i64 (x3 - x4), .int .i64 (x5 - x6)]) (by simp [results, Try.results30, go_sem]) rfl ⟨rfl, (by repeat (first | with_reducible exact Below.refl _ _ | with_reducible refine Below.setCell ?_ (by first | omega | (simp; done) | (simp; omega)) _ | with_reducible refine bDrewN ?_ _ | with_reducible refine Below.drew ?_ | with_reducible refine Below.alloc ?_ (by first | omega | (simp; done) | (simp; omega)) _))⟩
theorem eq_book (p q r s : Int) (w : World) : (binOp .eql 57 (.agg #[.int .i64 p, .int .i64 q]) (.agg #[.int .i64 r, .int .i64 s])).run Try.prog w = .ok (.bool (p == r && q == s)) w := by
  have u3 := Try.underlying2
  have a3 := Try.isAgg2
  have z3 := Try.sizeOf2
  have hS : Try.prog.underlying 57 = some (.struct (Try.prog.fieldsOf 57)) := by kernel_rfl
  have hp : Try.prog.stoodInHeld 57 = false := by kernel_rfl
  rw [run_eql_struct, show (10000 : Nat) = 9999 + 1 from rfl, run_equalIn_agg w 9999 57 _ _ hS hp]
  simp only [Program.fieldsOf, Try.underlying57]
  go_simp
  by_cases h1 : p = r <;> by_cases h2 : q = s <;> simp [h1, h2]
/-- The seven cells of a drum at a place. -/
def Keep7 (p : Nat) (x0 x1 x2 x3 x4 x5 x6 : Int) (w : World) : Prop := w.cell? ⟨p, 0, none⟩ = some (.int .i64 x0) ∧ w.cell? ⟨p, 1, none⟩ = some (.int .i64 x1) ∧ w.cell? ⟨p, 2, none⟩ = some (.int .i64 x2) ∧ w.cell? ⟨p, 3, none⟩ = some (.int .i64 x3) ∧ w.cell? ⟨p, 4, none⟩ = some (.int .i64 x4) ∧ w.cell? ⟨p, 5, none⟩ = some (.int .i64 x5) ∧ w.cell? ⟨p, 6, none⟩ = some (.int .i64 x6)
theorem keep7 {x0 x1 x2 x3 x4 x5 x6 : Int} {w w' : World} {t : TypeId} (hb : Below (w.alloc (.cells #[.int .i64 x0, .int .i64 x1, .int .i64 x2, .int .i64 x3, .int .i64 x4, .int .i64 x5, .int .i64 x6] t)).heap.size (w.alloc (.cells #[.int .i64 x0, .int .i64 x1, .int .i64 x2, .int .i64 x3, .int .i64 x4, .int .i64 x5, .int .i64 x6] t)) w') : Keep7 w.heap.size x0 x1 x2 x3 x4 x5 x6 w' := by
  refine ⟨?_, ?_, ?_, ?_, ?_, ?_, ?_⟩
  all_goals rw [hb.cell (by first | omega | (simp; done) | (simp; omega))]; simp
set_option maxHeartbeats 2000000 in
theorem specDrumOk_any (x0 x1 x2 x3 x4 x5 x6 : Int) (w : World) :
    Calls Try.prog 27 #[.agg #[.int .i64 x0, .int .i64 x1, .int .i64 x2, .int .i64 x3, .int .i64 x4, .int .i64 x5, .int .i64 x6]] w fun e w' => e = .returned (.bool (drumB x0 x1 x2 x3 x4 x5 x6)) ∧ Below w.heap.size w w' := by
  have Y : Hid (∀ (x : Int) (w : World), 0 ≤ x → x ≤ 1000000000000 → Calls Try.prog 43 #[.int .i64 x, .int .i64 0, .int .i64 1000000000000] w fun e w' => e = .returned (.bool true) ∧ w' = w) := fun x w a b => l1In_yes x 0 1000000000000 w a b
  have N : Hid (∀ (x : Int) (w : World), x < 0 ∨ 1000000000000 < x → Calls Try.prog 43 #[.int .i64 x, .int .i64 0, .int .i64 1000000000000] w fun e w' => e = .returned (.bool false) ∧ w' = w) := fun x w a => l1In_no x 0 1000000000000 w a
  go_enter Try.func27, Try.ntmps27
  go_wp2
  go_loop [4] (fun i => ∃ k : Nat, k ≤ 7 ∧ i = .int .i64 k ∧ Hid (∀ j, j < k → inD (dth x0 x1 x2 x3 x4 x5 x6 j))) (fun i => 7 - (intOf i).toNat)
  case atStart => exact ⟨0, by omega, rfl, fun j hj => by omega⟩
  case round =>
    obtain ⟨k, hk, rfl, hj⟩ := hrel
    by_cases h7 : k = 7
    · subst h7
      obtain ⟨b0, b1, b2, b3, b4, b5, b6, hf⟩ := drum_all hj.out
      have HF : Hid _ := hf
      clear hf hj
      have O : Hid (∀ w, Calls Try.prog 33 #[.agg #[.int .i64 x0, .int .i64 x1, .int .i64 x2, .int .i64 x3, .int .i64 x4, .int .i64 x5, .int .i64 x6]] w fun e w' => e = .returned (.int .i64 (x2 - 20 * x0 - 30 * x1)) ∧ Below w.heap.size w w') := fun w => l4Over_any x0 x1 x2 x3 x4 x5 x6 w b0.1 (by omega) b1.1 (by omega) b2.1 (by omega)
      by_cases m1 : x0 + x1 = x3 - x4
      · by_cases m2 : x2 = x5 - x6
        · have e2 : (x2 != x5 - x6) = false := by simpa using m2
          by_cases s0 : x1 = 0
          · subst s0
            have HM : Hid (x2 = x5 - x6) := m2
            clear m2 O
            go_wp2
            go_ret
            refine ⟨ret_bool ?_, (by repeat (first | with_reducible exact Below.refl _ _ | with_reducible refine Below.setCell ?_ (by first | omega | (simp; done) | (simp; omega)) _ | with_reducible refine bDrewN ?_ _ | with_reducible refine Below.drew ?_ | with_reducible refine Below.alloc ?_ (by first | omega | (simp; done) | (simp; omega)) _))⟩
            have m2 := HM.out
            have m3 := m1
            rw [HF.out]
            symm; rw [decide_eq_true_iff]
            exact ⟨m3, m2, .inl trivial⟩
          · have HM : Hid (x2 = x5 - x6) := m2
            clear m2
            go_wp2_with fail
            refine (O.out _).mono ?_
            rintro e w1 ⟨rfl, hb1⟩
            go_wp2
            go_ret
            refine ⟨ret_bool ?_, Below.trans (by repeat (first | with_reducible exact Below.refl _ _ | with_reducible refine Below.setCell ?_ (by first | omega | (simp; done) | (simp; omega)) _ | with_reducible refine bDrewN ?_ _ | with_reducible refine Below.drew ?_ | with_reducible refine Below.alloc ?_ (by first | omega | (simp; done) | (simp; omega)) _)) (hb1.mono (by first | omega | (simp; done) | (simp; omega)))⟩
            have m2 := HM.out
            rw [HF.out, Bool.eq_iff_iff, decide_eq_true_iff]
            simp only [Bool.or_eq_true, beq_iff_eq, decide_eq_true_iff]
            omega
        · have e2 : (x2 != x5 - x6) = true := by simpa using m2
          have HM : Hid (¬ x2 = x5 - x6) := m2
          clear m2 O
          go_wp2
          go_ret
          refine ⟨ret_bool ?_, (by repeat (first | with_reducible exact Below.refl _ _ | with_reducible refine Below.setCell ?_ (by first | omega | (simp; done) | (simp; omega)) _ | with_reducible refine bDrewN ?_ _ | with_reducible refine Below.drew ?_ | with_reducible refine Below.alloc ?_ (by first | omega | (simp; done) | (simp; omega)) _))⟩
          have m2 := HM.out
          rw [HF.out]
          symm; rw [decide_eq_false_iff_not]; omega
      · have HM : Hid (¬ x0 + x1 = x3 - x4) := m1
        clear O
        go_wp2
        go_ret
        refine ⟨ret_bool ?_, (by repeat (first | with_reducible exact Below.refl _ _ | with_reducible refine Below.setCell ?_ (by first | omega | (simp; done) | (simp; omega)) _ | with_reducible refine bDrewN ?_ _ | with_reducible refine Below.drew ?_ | with_reducible refine Below.alloc ?_ (by first | omega | (simp; done) | (simp; omega)) _))⟩
        have m1 := HM.out
        rw [HF.out]
        symm; rw [decide_eq_false_iff_not]; omega
    · have hlt : k < 7 := by omega
      by_cases hx : inD (dth x0 x1 x2 x3 x4 x5 x6 k)
      · have hs : Hid (∀ j, j < k + 1 → inD (dth x0 x1 x2 x3 x4 x5 x6 j)) := dth_succ hj.out hx
        obtain ⟨hx1, hx2⟩ := hx
        have k7 : k = 0 ∨ k = 1 ∨ k = 2 ∨ k = 3 ∨ k = 4 ∨ k = 5 ∨ k = 6 := by omega
        clear hj hk h7 hlt
        rcases k7 with rfl | rfl | rfl | rfl | rfl | rfl | rfl
        all_goals
          simp only [dth] at hx1 hx2
          go_wp2_with (go_at_call 43; refine (Y.out _ _ hx1 hx2).mono ?_; rintro e w1 ⟨rfl, rfl⟩)
          go_round
          case rel => exact ⟨_, by omega, by go_num, hs⟩
          case measure => simp [intOf]
      · have hn : Hid (drumB x0 x1 x2 x3 x4 x5 x6 = false) := drum_no hlt hx
        have hx' : dth x0 x1 x2 x3 x4 x5 x6 k < 0 ∨ 1000000000000 < dth x0 x1 x2 x3 x4 x5 x6 k := by unfold inD at hx; omega
        have k7 : k = 0 ∨ k = 1 ∨ k = 2 ∨ k = 3 ∨ k = 4 ∨ k = 5 ∨ k = 6 := by omega
        clear hj hk h7 hlt hx
        rcases k7 with rfl | rfl | rfl | rfl | rfl | rfl | rfl
        all_goals
          simp only [dth] at hx'
          have HX : Hid _ := hx'
          clear hx'
          go_wp2_with (go_at_call 43; refine (N.out _ _ HX.out).mono ?_; rintro e w1 ⟨rfl, rfl⟩)
          go_ret
          exact ⟨ret_bool hn.out.symm, (by repeat (first | with_reducible exact Below.refl _ _ | with_reducible refine Below.setCell ?_ (by first | omega | (simp; done) | (simp; omega)) _ | with_reducible refine bDrewN ?_ _ | with_reducible refine Below.drew ?_ | with_reducible refine Below.alloc ?_ (by first | omega | (simp; done) | (simp; omega)) _))⟩
end Go.Proofs.Ytjiojofgpdimaaa
