/-
What is proved: what the quotient of two pairs is, up to a NaN's bits, as both packages tell it.
-/
import Derived.Test.YtedkhhocbnldjaaPair
import Derived.Test.YtedkhhocbnldjaaKnown
namespace Go.Proofs.Ytedkhhocbnldjaa
set_option maxRecDepth 40000
open Go.RowKit
set_option linter.unusedVariables false
set_option linter.unusedSimpArgs false

/-- Whether there is a quotient by what has this sum of squares; its parts. -/
def divOk : Option Nat → Bool
  | some v => knownB v && (FloatKind.f64.format.order v 0 == some .gt)
  | none => false
def divRe (a b c d : Option Nat) : Option Nat := if divOk (normO c d) = true then opO .quo (mulRe a b c (conjIm d)) (normO c d) else none
def divIm (a b c d : Option Nat) : Option Nat := if divOk (normO c d) = true then opO .quo (mulIm a b c (conjIm d)) (normO c d) else none
theorem divOk_of {r : Nat} {k : Option Nat} (h : Fl r k) : divOk k = (knownB r && (FloatKind.f64.format.order r 0 == some .gt)) := by
  rcases h.2 with ⟨p, rfl⟩ | ⟨p, rfl⟩
  · rfl
  · have : knownB r = false := decide_eq_false (by omega)
    rw [this]; rfl
theorem fl_nan {r : Nat} (h : r < 18446744073709551616) (n : INF < rg r) : Fl r none := ⟨h, .inr ⟨n, rfl⟩⟩

set_option maxHeartbeats 400000 in
theorem l1None_any (w : World) : Calls Try.prog 39 #[] w fun e w' => ∃ r n, e = .returned (.float .f64 r) ∧ Fl r none ∧ w' = w.drewN n := by
  have e0 : opO .quo (some 0) (some 0) = none := by kernel_rfl
  go_enter Try.func39, Try.ntmps39
  go_wp2_with (first
    | (refine list_fop .quo rfl 22 22 (.tmp 2) (.tmp 3) (by rfl) (by rfl) (by rfl) (by rfl) fl_zero fl_zero ?_; intro r n hr))
  go_ret
  rw [e0] at hr
  exact ⟨r, n, rfl, hr, rfl⟩

set_option maxHeartbeats 400000 in
theorem nan_any (w : World) : Calls Try.prog 60 #[] w fun e w' => ∃ r, e = .returned (.float .f64 r) ∧ Fl r none ∧ w' = w := by
  have hb := frombits_run
  go_enter Try.func60, Try.ntmps60
  go_wp2
  go_ret
  exact ⟨9221120237041090561, rfl, fl_nan (by decide) (by decide), rfl⟩

set_option maxHeartbeats 1200000 in
theorem divInside_no {x y z u : Nat} {a b c d : Option Nat} (hx : Fl x a) (hy : Fl y b) (hz : Fl z c) (hu : Fl u d) (w : World) (h : divOk (normO c d) = false) : Calls Try.prog 45 #[.complex .f64 x y, .complex .f64 z u] w fun e w' => ∃ r i n, e = .returned (.complex .f64 r i) ∧ Fl r none ∧ Fl i none ∧ w' = w.drewN n := by
  go_enter Try.func45, Try.ntmps45
  go_wp2_with fail
  refine (normInside_any hz hu _).mono ?_
  rintro e w1 ⟨k, n, rfl, hk, rfl⟩
  rw [divOk_of hk] at h
  go_wp2_with fail
  refine (implKnown_any k hk.1 _).mono ?_
  rintro e w2 ⟨rfl, n2, rfl⟩
  cases hb : knownB k with
  | false =>
    clear h
    go_wp2_with fail
    refine (nan_any _).mono ?_
    rintro e w3 ⟨r, rfl, hr, rfl⟩
    go_wp2_with fail
    refine (nan_any _).mono ?_
    rintro e w3 ⟨i, rfl, hi, rfl⟩
    go_wp2
    go_ret
    exact ⟨r, i, n + n2, rfl, hr, hi, by simp [Nat.add_assoc]⟩
  | true =>
    rw [hb, Bool.true_and] at h
    have hr : rg k ≤ INF := Nat.le_of_lt (of_decide_eq_true hb)
    have ho := order_zero hr
    cases hq : FloatKind.f64.format.order k 0 with
    | none => rw [hq] at ho; cases ho
    | some o =>
      rw [hq] at h
      clear ho hr
      cases o with
      | gt => cases h
      | lt =>
        clear h
        go_wp2_with fail
        refine (nan_any _).mono ?_
        rintro e w3 ⟨r, rfl, hr, rfl⟩
        go_wp2_with fail
        refine (nan_any _).mono ?_
        rintro e w3 ⟨i, rfl, hi, rfl⟩
        go_wp2
        go_ret
        exact ⟨r, i, n + n2, rfl, hr, hi, by simp [Nat.add_assoc]⟩
      | eq =>
        clear h
        go_wp2_with fail
        refine (nan_any _).mono ?_
        rintro e w3 ⟨r, rfl, hr, rfl⟩
        go_wp2_with fail
        refine (nan_any _).mono ?_
        rintro e w3 ⟨i, rfl, hi, rfl⟩
        go_wp2
        go_ret
        exact ⟨r, i, n + n2, rfl, hr, hi, by simp [Nat.add_assoc]⟩

set_option maxHeartbeats 1200000 in
theorem divInside_yes {x y z u : Nat} {a b c d : Option Nat} (hx : Fl x a) (hy : Fl y b) (hz : Fl z c) (hu : Fl u d) (w : World) (h : divOk (normO c d) = true) : Calls Try.prog 45 #[.complex .f64 x y, .complex .f64 z u] w fun e w' => ∃ r i n, e = .returned (.complex .f64 r i) ∧ Fl r (opO .quo (mulRe a b c (conjIm d)) (normO c d)) ∧ Fl i (opO .quo (mulIm a b c (conjIm d)) (normO c d)) ∧ w' = w.drewN n := by
  go_enter Try.func45, Try.ntmps45
  go_wp2_with fail
  refine (normInside_any hz hu _).mono ?_
  rintro e w1 ⟨k, n, rfl, hk, rfl⟩
  rw [divOk_of hk, Bool.and_eq_true] at h
  obtain ⟨hb, hq⟩ := h
  have hq' : FloatKind.f64.format.order k 0 = some .gt := eq_of_beq hq
  go_wp2_with fail
  refine (implKnown_any k hk.1 _).mono ?_
  rintro e w2 ⟨rfl, n2, rfl⟩
  rw [hb]
  go_wp2_with fail
  refine (conjInside_any hz hu _).mono ?_
  rintro e w3 ⟨j, n3, rfl, hj, rfl⟩
  go_wp2_with fail
  refine (mulInside_any hx hy hz hj _).mono ?_
  rintro e w4 ⟨p, q, n4, rfl, hp, hq2, rfl⟩
  go_wp2_with (first
    | (refine list_fop .quo rfl 22 22 (.tmp 24) (.tmp 25) (by rfl) (by rfl) (by rfl) (by rfl) hp hk ?_; intro r n5 hr)
    | (refine list_fop .quo rfl 22 22 (.tmp 28) (.tmp 29) (by rfl) (by rfl) (by rfl) (by rfl) hq2 hk ?_; intro i n6 hi))
  go_ret
  exact ⟨r, i, n + n2 + n3 + n4 + n5 + n6, rfl, hr, hi, by simp [Nat.add_assoc]⟩
theorem divInside_any {x y z u : Nat} {a b c d : Option Nat} (hx : Fl x a) (hy : Fl y b) (hz : Fl z c) (hu : Fl u d) (w : World) : Calls Try.prog 45 #[.complex .f64 x y, .complex .f64 z u] w fun e w' => ∃ r i n, e = .returned (.complex .f64 r i) ∧ Fl r (divRe a b c d) ∧ Fl i (divIm a b c d) ∧ w' = w.drewN n := by
  unfold divRe divIm
  cases h : divOk (normO c d) with
  | false => exact divInside_no hx hy hz hu w h
  | true => exact divInside_yes hx hy hz hu w h
set_option maxHeartbeats 1200000 in
theorem implDivPair_any {x y z u : Nat} {a b c d : Option Nat} (hx : Fl x a) (hy : Fl y b) (hz : Fl z c) (hu : Fl u d) (w : World) : Calls Try.prog 27 #[.agg #[.float .f64 x, .float .f64 y], .agg #[.float .f64 z, .float .f64 u]] w fun e w' => ∃ r i, e = .returned (.agg #[.float .f64 r, .float .f64 i]) ∧ Fl r (divRe a b c d) ∧ Fl i (divIm a b c d) ∧ Below w.heap.size w w' := by
  have st := store_fp
  go_enter Try.func27, Try.ntmps27
  go_upto_region 1 with fail
  go_region_held3 (fun w' => w'.cell? ⟨w.heap.size, 0, none⟩ = some (.float .f64 x) ∧ w'.cell? ⟨w.heap.size, 1, none⟩ = some (.float .f64 y) ∧ w'.cell? ⟨w.heap.size + 1, 0, none⟩ = some (.float .f64 z) ∧ w'.cell? ⟨w.heap.size + 1, 1, none⟩ = some (.float .f64 u)) (first | (simp [go_sem]; done) | (simp [go_sem, *]; done)) (first
    | (go_at_call_of 46 (Value.float FloatKind.f64 x); refine (inside_any x y _).mono ?_; rintro e w1 ⟨rfl, rfl⟩)
    | (go_at_call_of 46 (Value.float FloatKind.f64 z); refine (inside_any z u _).mono ?_; rintro e w2 ⟨rfl, rfl⟩)
    | (go_at_call 45; refine (divInside_any hx hy hz hu _).mono ?_; rintro e w3 ⟨r, i, n, rfl, hr, hi, rfl⟩)
    | (go_at_call 44; refine (pairOf_any _ _ _).mono ?_; rintro e w4 ⟨rfl, rfl⟩))
  all_goals
    go_wp2
    exact bodyPost_ret (v := .agg #[.float .f64 r, .float .f64 i]) (by simp [results, Try.results27, go_sem]) rfl ⟨r, i, rfl, hr, hi, (by repeat (first | with_reducible exact Below.refl _ _ | with_reducible refine Below.setCell ?_ (by first | omega | (simp; done) | (simp; omega)) _ | with_reducible refine bDrewN ?_ _ | with_reducible refine Below.drew ?_ | with_reducible refine Below.alloc ?_ (by first | omega | (simp; done) | (simp; omega)) _))⟩
end Go.Proofs.Ytedkhhocbnldjaa
