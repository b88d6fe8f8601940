/-
What is proved: whether a fuel is right, as both packages say it, for all int64s as its parts.
-/
import Derived.Test.YtphmdnpmekdglaaDoorWithin
namespace Go.Proofs.YtphmdnpmekdglaaDoor
set_option maxRecDepth 40000
open Go.RowKit

/-- Whether a number of atoms is in its bounds; whether a fuel is right. -/
abbrev inR (x : Int) : Prop := 0 ≤ x ∧ x ≤ 1000000000
def fuelB (c h s o n : Int) : Bool := decide (inR c ∧ inR h ∧ inR s ∧ inR o ∧ inR n ∧ h % 2 = 0)
/-- The i-th of five. -/
def fth (c h s o n : Int) (k : Nat) : Int := match k with | 0 => c | 1 => h | 2 => s | 3 => o | _ => n
theorem fuel_no {c h s o n : Int} {k : Nat} (_hk : k < 5) (hx : ¬ inR (fth c h s o n k)) : fuelB c h s o n = false := by
  unfold fuelB; rw [decide_eq_false_iff_not]
  rintro ⟨h1, h2, h3, h4, h5, _⟩
  match k with
  | 0 => exact hx h1
  | 1 => exact hx h2
  | 2 => exact hx h3
  | 3 => exact hx h4
  | m + 4 => exact hx h5
theorem fuel_all {c h s o n : Int} (hx : ∀ j, j < 5 → inR (fth c h s o n j)) : inR h ∧ fuelB c h s o n = (h % 2 == 0) := by
  have h1 := hx 0 (by omega); have h2 := hx 1 (by omega); have h3 := hx 2 (by omega); have h4 := hx 3 (by omega); have h5 := hx 4 (by omega)
  simp only [fth] at h1 h2 h3 h4 h5
  refine ⟨h2, ?_⟩
  unfold fuelB; rw [Bool.eq_iff_iff, decide_eq_true_iff, beq_iff_eq]
  exact ⟨fun g => g.2.2.2.2.2, fun g => ⟨h1, h2, h3, h4, h5, g⟩⟩

theorem fth_succ {c h s o n : Int} {k : Nat} (hj : ∀ j, j < k → inR (fth c h s o n j)) (hx : inR (fth c h s o n k)) : ∀ j, j < k + 1 → inR (fth c h s o n j) := fun j hl => by
  by_cases e : j = k
  · rw [e]; exact hx
  · exact hj j (by omega)

set_option maxHeartbeats 1000000 in
theorem specFuelOk_any (c h s o n : Int) (w : World) :
    Calls Tryd.prog 28 #[.agg #[.int .i64 c, .int .i64 h, .int .i64 s, .int .i64 o, .int .i64 n]] w fun e w' => e = .returned (.bool (fuelB c h s o n)) ∧ Below w.heap.size w w' := by
  have Y : Hid (∀ (x : Int) (w : World), 0 ≤ x → x ≤ 1000000000 → Calls Tryd.prog 29 #[.int .i64 x, .int .i64 0, .int .i64 1000000000] w fun e w' => e = .returned (.bool true) ∧ w' = w) := fun x w a b => l1In_yes x 0 1000000000 w a b
  have N : Hid (∀ (x : Int) (w : World), x < 0 ∨ 1000000000 < x → Calls Tryd.prog 29 #[.int .i64 x, .int .i64 0, .int .i64 1000000000] w fun e w' => e = .returned (.bool false) ∧ w' = w) := fun x w a => l1In_no x 0 1000000000 w a
  go_enter Tryd.func28, Tryd.ntmps28
  go_wp2
  go_loop [4] (fun i => ∃ k : Nat, k ≤ 5 ∧ i = .int .i64 k ∧ Hid (∀ j, j < k → inR (fth c h s o n j))) (fun i => 5 - (intOf i).toNat)
  case atStart => exact ⟨0, by omega, rfl, fun j hj => by omega⟩
  case round =>
    obtain ⟨k, hk, rfl, hj⟩ := hrel
    by_cases h5 : k = 5
    · subst h5
      obtain ⟨hh, hf⟩ := fuel_all hj.out
      obtain ⟨hh1, hh2⟩ := hh
      have HF : Hid (fuelB c h s o n = (h % 2 == 0)) := hf
      clear hf
      go_wp2
      go_ret
      exact ⟨ret_bool HF.out.symm, (by repeat (first | with_reducible exact Below.refl _ _ | with_reducible refine Below.setCell ?_ (by first | omega | (simp; done) | (simp; omega)) _ | with_reducible refine bDrewN ?_ _ | with_reducible refine Below.drew ?_ | with_reducible refine Below.alloc ?_ (by first | omega | (simp; done) | (simp; omega)) _))⟩
    · have hlt : k < 5 := by omega
      by_cases hx : inR (fth c h s o n k)
      · have hs : Hid (∀ j, j < k + 1 → inR (fth c h s o n j)) := fth_succ hj.out hx
        obtain ⟨hx1, hx2⟩ := hx
        have k5 : k = 0 ∨ k = 1 ∨ k = 2 ∨ k = 3 ∨ k = 4 := by omega
        clear hj hk h5 hlt
        rcases k5 with rfl | rfl | rfl | rfl | rfl
        all_goals
          simp only [fth] at hx1 hx2
          go_wp2_with (go_at_call 29; refine (Y.out _ _ hx1 hx2).mono ?_; rintro e w1 ⟨rfl, rfl⟩)
          go_round
          case rel => exact ⟨_, by omega, by go_num, hs⟩
          case measure => simp [intOf]
      · have hn : Hid (fuelB c h s o n = false) := fuel_no hlt hx
        have hx' : fth c h s o n k < 0 ∨ 1000000000 < fth c h s o n k := by unfold inR at hx; omega
        have k5 : k = 0 ∨ k = 1 ∨ k = 2 ∨ k = 3 ∨ k = 4 := by omega
        clear hj hk h5 hlt hx
        rcases k5 with rfl | rfl | rfl | rfl | rfl
        all_goals
          simp only [fth] at hx'
          have HX : Hid _ := hx'
          clear hx'
          go_wp2_with (go_at_call 29; refine (N.out _ _ HX.out).mono ?_; rintro e w1 ⟨rfl, rfl⟩)
          go_ret
          exact ⟨ret_bool hn.out.symm, (by repeat (first | with_reducible exact Below.refl _ _ | with_reducible refine Below.setCell ?_ (by first | omega | (simp; done) | (simp; omega)) _ | with_reducible refine bDrewN ?_ _ | with_reducible refine Below.drew ?_ | with_reducible refine Below.alloc ?_ (by first | omega | (simp; done) | (simp; omega)) _))⟩
set_option maxHeartbeats 1000000 in
theorem implFuelOk_any (c h s o n : Int) (w : World) :
    Calls Tryd.prog 30 #[.agg #[.int .i64 c, .int .i64 h, .int .i64 s, .int .i64 o, .int .i64 n]] w fun e w' => e = .returned (.bool (fuelB c h s o n)) ∧ Below w.heap.size w w' := by
  have Y : Hid (∀ (x : Int) (w : World), 0 ≤ x → x ≤ 1000000000 → Calls Tryd.prog 34 #[.int .i64 x, .int .i64 0, .int .i64 1000000000] w fun e w' => e = .returned (.bool true) ∧ w' = w) := fun x w a b => within_yes x 0 1000000000 w a b
  have N : Hid (∀ (x : Int) (w : World), x < 0 ∨ 1000000000 < x → Calls Tryd.prog 34 #[.int .i64 x, .int .i64 0, .int .i64 1000000000] w fun e w' => e = .returned (.bool false) ∧ w' = w) := fun x w a => within_no x 0 1000000000 w a
  have i0 : ∀ w, (Instr.index 73 (.agg #[.int .i64 c, .int .i64 h, .int .i64 s, .int .i64 o, .int .i64 n]) (.int .i64 0)).run Tryd.prog w = .ok (.int .i64 c) w := fun _ => by kernel_rfl
  have i1 : ∀ w, (Instr.index 73 (.agg #[.int .i64 c, .int .i64 h, .int .i64 s, .int .i64 o, .int .i64 n]) (.int .i64 1)).run Tryd.prog w = .ok (.int .i64 h) w := fun _ => by kernel_rfl
  have i2 : ∀ w, (Instr.index 73 (.agg #[.int .i64 c, .int .i64 h, .int .i64 s, .int .i64 o, .int .i64 n]) (.int .i64 2)).run Tryd.prog w = .ok (.int .i64 s) w := fun _ => by kernel_rfl
  have i3 : ∀ w, (Instr.index 73 (.agg #[.int .i64 c, .int .i64 h, .int .i64 s, .int .i64 o, .int .i64 n]) (.int .i64 3)).run Tryd.prog w = .ok (.int .i64 o) w := fun _ => by kernel_rfl
  have i4 : ∀ w, (Instr.index 73 (.agg #[.int .i64 c, .int .i64 h, .int .i64 s, .int .i64 o, .int .i64 n]) (.int .i64 4)).run Tryd.prog w = .ok (.int .i64 n) w := fun _ => by kernel_rfl
  go_enter Tryd.func30, Tryd.ntmps30
  go_wp2
  go_loop [16] (fun i => ∃ k : Nat, k ≤ 5 ∧ i = .int .i64 k ∧ Hid (∀ j, j < k → inR (fth c h s o n j))) (fun i => 5 - (intOf i).toNat)
  case atStart => exact ⟨0, by omega, rfl, fun j hj => by omega⟩
  case round =>
    obtain ⟨k, hk, rfl, hj⟩ := hrel
    by_cases h5 : k = 5
    · subst h5
      obtain ⟨hh, hf⟩ := fuel_all hj.out
      obtain ⟨hh1, hh2⟩ := hh
      have HF : Hid (fuelB c h s o n = (h % 2 == 0)) := hf
      clear hf
      go_wp2
      go_ret
      exact ⟨ret_bool HF.out.symm, (by repeat (first | with_reducible exact Below.refl _ _ | with_reducible refine Below.setCell ?_ (by first | omega | (simp; done) | (simp; omega)) _ | with_reducible refine bDrewN ?_ _ | with_reducible refine Below.drew ?_ | with_reducible refine Below.alloc ?_ (by first | omega | (simp; done) | (simp; omega)) _))⟩
    · have hlt : k < 5 := by omega
      by_cases hx : inR (fth c h s o n k)
      · have hs : Hid (∀ j, j < k + 1 → inR (fth c h s o n j)) := fth_succ hj.out hx
        obtain ⟨hx1, hx2⟩ := hx
        have k5 : k = 0 ∨ k = 1 ∨ k = 2 ∨ k = 3 ∨ k = 4 := by omega
        clear hj hk h5 hlt
        rcases k5 with rfl | rfl | rfl | rfl | rfl
        all_goals
          simp only [fth] at hx1 hx2
          go_wp2_with (go_at_call 34; refine (Y.out _ _ hx1 hx2).mono ?_; rintro e w1 ⟨rfl, rfl⟩)
          go_round
          case rel => exact ⟨_, by omega, by go_num, hs⟩
          case measure => simp [intOf]
      · have hn : Hid (fuelB c h s o n = false) := fuel_no hlt hx
        have hx' : fth c h s o n k < 0 ∨ 1000000000 < fth c h s o n k := by unfold inR at hx; omega
        have k5 : k = 0 ∨ k = 1 ∨ k = 2 ∨ k = 3 ∨ k = 4 := by omega
        clear hj hk h5 hlt hx
        rcases k5 with rfl | rfl | rfl | rfl | rfl
        all_goals
          simp only [fth] at hx'
          have HX : Hid _ := hx'
          clear hx'
          go_wp2_with (go_at_call 34; refine (N.out _ _ HX.out).mono ?_; rintro e w1 ⟨rfl, rfl⟩)
          go_ret
          exact ⟨ret_bool hn.out.symm, (by repeat (first | with_reducible exact Below.refl _ _ | with_reducible refine Below.setCell ?_ (by first | omega | (simp; done) | (simp; omega)) _ | with_reducible refine bDrewN ?_ _ | with_reducible refine Below.drew ?_ | with_reducible refine Below.alloc ?_ (by first | omega | (simp; done) | (simp; omega)) _))⟩

set_option maxHeartbeats 400000 in
theorem toFuel_any (c h s o n : Int) (w : World) :
    Calls Tryd.prog 17 #[.agg #[.int .i64 c, .int .i64 h, .int .i64 s, .int .i64 o, .int .i64 n]] w fun e w' => e = .returned (.agg #[.int .i64 c, .int .i64 h, .int .i64 s, .int .i64 o, .int .i64 n]) ∧ w' = ((w.alloc (.cells #[.int .i64 c, .int .i64 h, .int .i64 s, .int .i64 o, .int .i64 n] 37)).alloc (.cells #[.int .i64 c, .int .i64 h, .int .i64 s, .int .i64 o, .int .i64 n] 25)).alloc (.cells #[.int .i64 c, .int .i64 h, .int .i64 s, .int .i64 o, .int .i64 n] 25) := by
  go_enter Tryd.func17, Tryd.ntmps17
  go_wp2
  exact bodyPost_ret (v := .agg #[.int .i64 c, .int .i64 h, .int .i64 s, .int .i64 o, .int .i64 n]) (by simp [results, Tryd.results17, go_sem]) rfl ⟨rfl, rfl⟩
end Go.Proofs.YtphmdnpmekdglaaDoor
