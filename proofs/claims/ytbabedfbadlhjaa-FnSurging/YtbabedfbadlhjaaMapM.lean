/-
What is proved: how far a flow lies above the surge, as both packages tell it, up to a NaN's bits.
-/
import Derived.Test.YtbabedfbadlhjaaMapK
namespace Go.Proofs.Ytbabedfbadlhjaa
set_option maxRecDepth 40000
open Go.RowKit
set_option linter.unusedVariables false
set_option linter.unusedSimpArgs false

def marginO (o : Option Nat) (y : Int) : Option Nat := if ordO o (some 0) = some .gt then opO .quo (opO .sub (some (itf y)) o) o else none
theorem isNaNM_any (x : Nat) (w : World) : Calls Try.prog 41 #[.float .f64 x] w fun e w' => e = .returned (.bool (decide (INF < rg x))) ∧ w' = w := by
  rw [← nan_iff x]
  go_enter Try.func41, Try.ntmps41
  go_wp2
  go_ret
  exact ⟨rfl, rfl⟩
set_option maxHeartbeats 800000 in
theorem specMargin_any (s : Option Addr) (n c : Nat) (x y : Int) (o : Option Nat) (w : World) (H : Hid (Calls Try.prog 24 #[.slice s n c, .int .i64 x] w fun e w' => ∃ r, e = .returned (.float .f64 r) ∧ Fl r o ∧ Below w.heap.size w w')) : Calls Try.prog 25 #[.slice s n c, .int .i64 x, .int .i64 y] w fun e w' => ∃ r, e = .returned (.float .f64 r) ∧ Fl r (marginO o y) ∧ Below w.heap.size w w' := by
  have cv : ∀ k w, (convert 2 30 (.int .i64 k)).run Try.prog w = .ok (.float .f64 (itf k)) w := fun k w => conv_run k w
  by_cases hq : ordO o (some 0) = some .gt
  · have em : marginO o y = opO .quo (opO .sub (some (itf y)) o) o := by unfold marginO; rw [if_pos hq]
    rw [em]; clear em
    go_enter Try.func25, Try.ntmps25
    go_wp2_with fail
    refine H.out.mono ?_
    rintro e w1 ⟨r, rfl, hr, h1⟩
    have ho : FloatKind.f64.format.order r 0 = some .gt := (fl_order hr fl_zero).trans hq
    clear hq
    go_wp2_with (first
      | (refine list_fop .sub rfl 30 30 (.tmp 17) (.tmp 18) (by rfl) (by rfl) (by rfl) (by rfl) (itf_fl _) hr ?_; intro f n1 hf)
      | (refine list_fop .quo rfl 30 30 (.tmp 20) (.tmp 21) (by rfl) (by rfl) (by rfl) (by rfl) hf hr ?_; intro g n2 hg))
    go_ret
    exact ⟨g, rfl, hg, bDrewN h1 _⟩
  · have em : marginO o y = none := by unfold marginO; rw [if_neg hq]
    rw [em]; clear em
    go_enter Try.func25, Try.ntmps25
    go_wp2_with fail
    refine H.out.mono ?_
    rintro e w1 ⟨r, rfl, hr, h1⟩
    have ho : (FloatKind.f64.format.order r 0 == some .gt) = false := by rw [fl_order hr fl_zero]; exact beq_false_of_ne hq
    clear hq
    go_wp2_with fail
    refine (l1NoneM_any _).mono ?_
    rintro e w2 ⟨f, m, rfl, hf, rfl⟩
    go_wp2
    go_ret
    exact ⟨f, rfl, hf, bDrewN h1 _⟩
set_option maxHeartbeats 800000 in
theorem implMargin_any (s : Option Addr) (n c : Nat) (x y : Int) (o : Option Nat) (w : World) (H : Hid (Calls Try.prog 14 #[.slice s n c, .int .i64 x] w fun e w' => ∃ r, e = .returned (.float .f64 r) ∧ Fl r o ∧ Below w.heap.size w w')) : Calls Try.prog 18 #[.slice s n c, .int .i64 x, .int .i64 y] w fun e w' => ∃ r, e = .returned (.float .f64 r) ∧ Fl r (marginO o y) ∧ Below w.heap.size w w' := by
  have cv : ∀ k w, (convert 2 30 (.int .i64 k)).run Try.prog w = .ok (.float .f64 (itf k)) w := fun k w => conv_run k w
  by_cases hq : ordO o (some 0) = some .gt
  · have em : marginO o y = opO .quo (opO .sub (some (itf y)) o) o := by unfold marginO; rw [if_pos hq]
    rw [em]; clear em
    go_enter Try.func18, Try.ntmps18
    go_wp2_with fail
    refine H.out.mono ?_
    rintro e w1 ⟨r, rfl, hr, h1⟩
    have ho : FloatKind.f64.format.order r 0 = some .gt := (fl_order hr fl_zero).trans hq
    have hn : ¬ INF < rg r := fun h => by rw [order_nan_l h] at ho; cases ho
    clear hq
    go_wp2_with fail
    refine (isNaNM_any r _).mono ?_
    rintro e w2 ⟨rfl, rfl⟩
    rw [decide_eq_false hn]
    clear hn
    go_wp2_with (first
      | (refine list_fop .sub rfl 30 30 (.tmp 19) (.tmp 20) (by rfl) (by rfl) (by rfl) (by rfl) (itf_fl _) hr ?_; intro f n1 hf)
      | (refine list_fop .quo rfl 30 30 (.tmp 21) (.tmp 22) (by rfl) (by rfl) (by rfl) (by rfl) hf hr ?_; intro g n2 hg))
    go_ret
    exact ⟨g, rfl, hg, bDrewN h1 _⟩
  · have em : marginO o y = none := by unfold marginO; rw [if_neg hq]
    rw [em]; clear em
    go_enter Try.func18, Try.ntmps18
    go_wp2_with fail
    refine H.out.mono ?_
    rintro e w1 ⟨r, rfl, hr, h1⟩
    have ho : FloatKind.f64.format.order r 0 ≠ some .gt := by rw [fl_order hr fl_zero]; exact hq
    clear hq
    go_wp2_with fail
    refine (isNaNM_any r _).mono ?_
    rintro e w2 ⟨rfl, rfl⟩
    by_cases hn : INF < rg r
    · rw [decide_eq_true hn]
      clear hn ho
      go_wp2_with fail
      refine (nanM_any _).mono ?_
      rintro e w3 ⟨f, rfl, hf, rfl⟩
      go_wp2
      go_ret
      exact ⟨f, rfl, hf, h1⟩
    · rw [decide_eq_false hn]
      rw [order_zero (by omega)] at ho
      have hle : ∃ t, FloatKind.f64.format.order r 0 = some t ∧ (t = .eq ∨ t = .lt) := by
        rw [order_zero (by omega)]
        refine ⟨_, rfl, ?_⟩
        by_cases a : rg r = 0
        · rw [if_pos a]; exact .inl rfl
        · by_cases b : sg r = true
          · rw [if_neg a, if_pos b]; exact .inr rfl
          · rw [if_neg a, if_neg b] at ho; exact absurd rfl ho
      clear ho hn
      obtain ⟨t, ht, rfl | rfl⟩ := hle
      all_goals
        go_wp2_with fail
        refine (nanM_any _).mono ?_
        rintro e w3 ⟨f, rfl, hf, rfl⟩
        go_wp2
        go_ret
        exact ⟨f, rfl, hf, h1⟩
end Go.Proofs.Ytbabedfbadlhjaa
