/-
What is proved: whether a machine is capable of a power, as both packages say it, for every pair and range.
-/
import Derived.Test.YtooanlcpbebhlaaINorm
import Derived.Deep.RegionHeldLaw
namespace Go.Proofs.Ytooanlcpbebhlaa
set_option maxRecDepth 40000
open Go.RowKit
set_option linter.unusedVariables false
set_option linter.unusedSimpArgs false

def leqB (o : Option Ordering) : Bool := o == some .lt || o == some .eq
set_option maxHeartbeats 800000 in
theorem toRange_any (x y z : Nat) (w : World) : Calls Try.prog 17 #[.agg #[.float .f64 x, .float .f64 y, .float .f64 z]] w fun e w' => e = .returned (.agg #[.float .f64 x, .float .f64 y, .float .f64 z]) ∧ w' = ((w.alloc (.cells #[.float .f64 x, .float .f64 y, .float .f64 z] 34)).alloc (.cells #[.float .f64 x, .float .f64 y, .float .f64 z] 36)).alloc (.cells #[.float .f64 x, .float .f64 y, .float .f64 z] 36) := by
  have st := store_fp
  go_enter Try.func17, Try.ntmps17
  go_wp2
  exact bodyPost_ret (v := .agg #[.float .f64 x, .float .f64 y, .float .f64 z]) (by simp [results, Try.results17, go_sem]) rfl ⟨rfl, rfl⟩
set_option maxHeartbeats 1200000 in
theorem specCapable_no1 {x y : Nat} {a b : Option Nat} (hx : Fl x a) (hy : Fl y b) (l m g : Nat) (lg : g < 18446744073709551616) (w : World) (h1 : (FloatKind.f64.format.order l x == some .lt || FloatKind.f64.format.order l x == some .eq) = false) : Calls Try.prog 16 #[.agg #[.float .f64 x, .float .f64 y], .agg #[.float .f64 l, .float .f64 m, .float .f64 g]] w fun e w' => e = .returned (.bool false) ∧ Below w.heap.size w w' := by
  go_enter Try.func16, Try.ntmps16
  go_upto_region 1 with fail
  go_quiet (fail)
  go_wp2
  go_ret
  exact ⟨rfl, (by repeat (first | with_reducible exact Below.refl _ _ | with_reducible refine Below.setCell ?_ (by first | omega | (simp; done) | (simp; omega)) _ | with_reducible refine bDrewN ?_ _ | with_reducible refine Below.drew ?_ | with_reducible refine Below.alloc ?_ (by first | omega | (simp; done) | (simp; omega)) _))⟩
set_option maxHeartbeats 1200000 in
theorem specCapable_no2 {x y : Nat} {a b : Option Nat} (hx : Fl x a) (hy : Fl y b) (l m g : Nat) (lg : g < 18446744073709551616) (w : World) (h1 : (FloatKind.f64.format.order l x == some .lt || FloatKind.f64.format.order l x == some .eq) = true) (h2 : (FloatKind.f64.format.order x m == some .lt || FloatKind.f64.format.order x m == some .eq) = false) : Calls Try.prog 16 #[.agg #[.float .f64 x, .float .f64 y], .agg #[.float .f64 l, .float .f64 m, .float .f64 g]] w fun e w' => e = .returned (.bool false) ∧ Below w.heap.size w w' := by
  go_enter Try.func16, Try.ntmps16
  go_upto_region 1 with fail
  go_quiet (fail)
  go_wp2
  go_ret
  exact ⟨rfl, (by repeat (first | with_reducible exact Below.refl _ _ | with_reducible refine Below.setCell ?_ (by first | omega | (simp; done) | (simp; omega)) _ | with_reducible refine bDrewN ?_ _ | with_reducible refine Below.drew ?_ | with_reducible refine Below.alloc ?_ (by first | omega | (simp; done) | (simp; omega)) _))⟩
set_option maxHeartbeats 1200000 in
theorem specCapable_yes {x y : Nat} {a b : Option Nat} (hx : Fl x a) (hy : Fl y b) (l m g : Nat) (lg : g < 18446744073709551616) (w : World) (h1 : (FloatKind.f64.format.order l x == some .lt || FloatKind.f64.format.order l x == some .eq) = true) (h2 : (FloatKind.f64.format.order x m == some .lt || FloatKind.f64.format.order x m == some .eq) = true) : Calls Try.prog 16 #[.agg #[.float .f64 x, .float .f64 y], .agg #[.float .f64 l, .float .f64 m, .float .f64 g]] w fun e w' => e = .returned (.bool (leqB (ordO (normO a b) (opO .mul (ofW g) (ofW g))))) ∧ Below w.heap.size w w' := by
  have hg := fl_of g lg
  have mr := fRun_ran (P := Try.prog) (f := .mul) rfl 22 g g
  cases hm : fRun .mul g g with
  | some v =>
    simp only [hm] at mr
    have hv : Fl v (opO .mul (ofW g) (ofW g)) := by
      rcases hg.2 with ⟨p, e⟩ | ⟨p, e⟩
      · rw [e]; exact ⟨(fRun_fin rfl hm).2, .inl ⟨(fRun_fin rfl hm).1, hm⟩⟩
      · rw [fRun_nan_l rfl g p] at hm; cases hm
    clear hm lg hg
    go_enter Try.func16, Try.ntmps16
    go_upto_region 1 with fail
    go_region_held3 (fun w' => w'.cell? ⟨w.heap.size, 0, none⟩ = some (.float .f64 x) ∧ w'.cell? ⟨w.heap.size, 1, none⟩ = some (.float .f64 y) ∧ w'.cell? ⟨w.heap.size + 1, 0, none⟩ = some (.float .f64 l) ∧ w'.cell? ⟨w.heap.size + 1, 1, none⟩ = some (.float .f64 m) ∧ w'.cell? ⟨w.heap.size + 1, 2, none⟩ = some (.float .f64 g)) (first | (simp [go_sem]; done) | (simp [go_sem, *]; done)) (first
      | (go_at_call 9; refine (specNorm_any hx hy _).mono ?_; rintro e w3 ⟨r, rfl, hr, hx3⟩; have ho := fl_order hr hv; obtain ⟨hc3, hf3⟩ := bcell hx3; have B3 : Below w.heap.size w w3 := Below.trans (by repeat (first | with_reducible exact Below.refl _ _ | with_reducible refine Below.setCell ?_ (by first | omega | (simp; done) | (simp; omega)) _ | with_reducible refine bDrewN ?_ _ | with_reducible refine Below.drew ?_ | with_reducible refine Below.alloc ?_ (by first | omega | (simp; done) | (simp; omega)) _)) (hx3.mono (by first | omega | (simp; done) | (simp; omega))); have s3 := hx3.size; simp at s3; have z3a : w.heap.size < w3.heap.size := (by omega); have z3b : w.heap.size + 1 < w3.heap.size := (by omega)))
    all_goals
      go_wp2
      go_ret
      exact ⟨by rw [← ho]; rfl, (by repeat (first | with_reducible exact Below.refl _ _ | with_reducible exact B3 | with_reducible refine Below.setCell ?_ (by first | omega | (simp; done) | (simp; omega)) _ | with_reducible refine bDrewN ?_ _ | with_reducible refine Below.drew ?_ | with_reducible refine Below.alloc ?_ (by first | omega | (simp; done) | (simp; omega)) _))⟩
  | none =>
    simp only [hm] at mr
    have hv : opO .mul (ofW g) (ofW g) = none := by
      unfold ofW; split
      · rfl
      · exact hm
    rw [hv]
    have hn : ∀ (W : World) (r : Nat), FloatKind.f64.format.order r (nanA W (.nanBits .f64 g g)) = none := fun W r => order_nan_r (nanA_nan _ _ _)
    have he : leqB (ordO (normO a b) none) = false := by cases normO a b <;> rfl
    rw [he]
    clear hm lg hg hv he
    go_enter Try.func16, Try.ntmps16
    go_upto_region 1 with fail
    go_region_held_law (fun w' => w'.cell? ⟨w.heap.size, 0, none⟩ = some (.float .f64 x) ∧ w'.cell? ⟨w.heap.size, 1, none⟩ = some (.float .f64 y) ∧ w'.cell? ⟨w.heap.size + 1, 0, none⟩ = some (.float .f64 l) ∧ w'.cell? ⟨w.heap.size + 1, 1, none⟩ = some (.float .f64 m) ∧ w'.cell? ⟨w.heap.size + 1, 2, none⟩ = some (.float .f64 g)) (first | (simp [go_sem]; done) | (simp [go_sem, *]; done)) (first
      | (go_at_call 9; refine (specNorm_any hx hy _).mono ?_; rintro e w3 ⟨r, rfl, hr, hx3⟩; obtain ⟨hc3, hf3⟩ := bcell hx3; have B3 : Below w.heap.size w w3 := Below.trans (by repeat (first | with_reducible exact Below.refl _ _ | with_reducible refine Below.setCell ?_ (by first | omega | (simp; done) | (simp; omega)) _ | with_reducible refine bDrewN ?_ _ | with_reducible refine Below.drew ?_ | with_reducible refine Below.alloc ?_ (by first | omega | (simp; done) | (simp; omega)) _)) (hx3.mono (by first | omega | (simp; done) | (simp; omega))); have s3 := hx3.size; simp at s3; have z3a : w.heap.size < w3.heap.size := (by omega); have z3b : w.heap.size + 1 < w3.heap.size := (by omega)))
    all_goals
      go_wp2
      go_ret
      exact ⟨by simp, (by repeat (first | with_reducible exact Below.refl _ _ | with_reducible exact B3 | with_reducible refine Below.setCell ?_ (by first | omega | (simp; done) | (simp; omega)) _ | with_reducible refine bDrewN ?_ _ | with_reducible refine Below.drew ?_ | with_reducible refine Below.alloc ?_ (by first | omega | (simp; done) | (simp; omega)) _))⟩
theorem specCapable_any {x y : Nat} {a b : Option Nat} (hx : Fl x a) (hy : Fl y b) (l m g : Nat) (lg : g < 18446744073709551616) (w : World) : Calls Try.prog 16 #[.agg #[.float .f64 x, .float .f64 y], .agg #[.float .f64 l, .float .f64 m, .float .f64 g]] w fun e w' => e = .returned (.bool (leqB (FloatKind.f64.format.order l x) && leqB (FloatKind.f64.format.order x m) && leqB (ordO (normO a b) (opO .mul (ofW g) (ofW g))))) ∧ Below w.heap.size w w' := by
  cases h1 : (FloatKind.f64.format.order l x == some .lt || FloatKind.f64.format.order l x == some .eq) with
  | false =>
    have e1 : leqB (FloatKind.f64.format.order l x) = false := h1
    rw [e1]; exact specCapable_no1 hx hy l m g lg w h1
  | true =>
    have e1 : leqB (FloatKind.f64.format.order l x) = true := h1
    cases h2 : (FloatKind.f64.format.order x m == some .lt || FloatKind.f64.format.order x m == some .eq) with
    | false =>
      have e2 : leqB (FloatKind.f64.format.order x m) = false := h2
      rw [e1, e2]; exact specCapable_no2 hx hy l m g lg w h1 h2
    | true =>
      have e2 : leqB (FloatKind.f64.format.order x m) = true := h2
      rw [e1, e2]; exact specCapable_yes hx hy l m g lg w h1 h2
set_option maxHeartbeats 1200000 in
theorem implCapable_no1 {x y : Nat} {a b : Option Nat} (hx : Fl x a) (hy : Fl y b) (l m g : Nat) (lg : g < 18446744073709551616) (w : World) (h1 : (FloatKind.f64.format.order l x == some .lt || FloatKind.f64.format.order l x == some .eq) = false) : Calls Try.prog 18 #[.agg #[.float .f64 x, .float .f64 y], .agg #[.float .f64 l, .float .f64 m, .float .f64 g]] w fun e w' => e = .returned (.bool false) ∧ Below w.heap.size w w' := by
  go_enter Try.func18, Try.ntmps18
  go_upto_region 1 with fail
  go_quiet (fail)
  go_wp2
  go_ret
  exact ⟨rfl, (by repeat (first | with_reducible exact Below.refl _ _ | with_reducible refine Below.setCell ?_ (by first | omega | (simp; done) | (simp; omega)) _ | with_reducible refine bDrewN ?_ _ | with_reducible refine Below.drew ?_ | with_reducible refine Below.alloc ?_ (by first | omega | (simp; done) | (simp; omega)) _))⟩
set_option maxHeartbeats 1200000 in
theorem implCapable_no2 {x y : Nat} {a b : Option Nat} (hx : Fl x a) (hy : Fl y b) (l m g : Nat) (lg : g < 18446744073709551616) (w : World) (h1 : (FloatKind.f64.format.order l x == some .lt || FloatKind.f64.format.order l x == some .eq) = true) (h2 : (FloatKind.f64.format.order x m == some .lt || FloatKind.f64.format.order x m == some .eq) = false) : Calls Try.prog 18 #[.agg #[.float .f64 x, .float .f64 y], .agg #[.float .f64 l, .float .f64 m, .float .f64 g]] w fun e w' => e = .returned (.bool false) ∧ Below w.heap.size w w' := by
  go_enter Try.func18, Try.ntmps18
  go_upto_region 1 with fail
  go_quiet (fail)
  go_wp2
  go_ret
  exact ⟨rfl, (by repeat (first | with_reducible exact Below.refl _ _ | with_reducible refine Below.setCell ?_ (by first | omega | (simp; done) | (simp; omega)) _ | with_reducible refine bDrewN ?_ _ | with_reducible refine Below.drew ?_ | with_reducible refine Below.alloc ?_ (by first | omega | (simp; done) | (simp; omega)) _))⟩
set_option maxHeartbeats 1200000 in
theorem implCapable_yes {x y : Nat} {a b : Option Nat} (hx : Fl x a) (hy : Fl y b) (l m g : Nat) (lg : g < 18446744073709551616) (w : World) (h1 : (FloatKind.f64.format.order l x == some .lt || FloatKind.f64.format.order l x == some .eq) = true) (h2 : (FloatKind.f64.format.order x m == some .lt || FloatKind.f64.format.order x m == some .eq) = true) : Calls Try.prog 18 #[.agg #[.float .f64 x, .float .f64 y], .agg #[.float .f64 l, .float .f64 m, .float .f64 g]] w fun e w' => e = .returned (.bool (leqB (ordO (normO a b) (opO .mul (ofW g) (ofW g))))) ∧ Below w.heap.size w w' := by
  have hg := fl_of g lg
  have mr := fRun_ran (P := Try.prog) (f := .mul) rfl 22 g g
  cases hm : fRun .mul g g with
  | some v =>
    simp only [hm] at mr
    have hv : Fl v (opO .mul (ofW g) (ofW g)) := by
      rcases hg.2 with ⟨p, e⟩ | ⟨p, e⟩
      · rw [e]; exact ⟨(fRun_fin rfl hm).2, .inl ⟨(fRun_fin rfl hm).1, hm⟩⟩
      · rw [fRun_nan_l rfl g p] at hm; cases hm
    clear hm lg hg
    go_enter Try.func18, Try.ntmps18
    go_upto_region 1 with fail
    go_region_held3 (fun w' => w'.cell? ⟨w.heap.size, 0, none⟩ = some (.float .f64 x) ∧ w'.cell? ⟨w.heap.size, 1, none⟩ = some (.float .f64 y) ∧ w'.cell? ⟨w.heap.size + 1, 0, none⟩ = some (.float .f64 l) ∧ w'.cell? ⟨w.heap.size + 1, 1, none⟩ = some (.float .f64 m) ∧ w'.cell? ⟨w.heap.size + 1, 2, none⟩ = some (.float .f64 g)) (first | (simp [go_sem]; done) | (simp [go_sem, *]; done)) (first
      | (go_at_call 11; refine (implNorm_any hx hy _).mono ?_; rintro e w3 ⟨r, rfl, hr, hx3⟩; have ho := fl_order hr hv; obtain ⟨hc3, hf3⟩ := bcell hx3; have B3 : Below w.heap.size w w3 := Below.trans (by repeat (first | with_reducible exact Below.refl _ _ | with_reducible refine Below.setCell ?_ (by first | omega | (simp; done) | (simp; omega)) _ | with_reducible refine bDrewN ?_ _ | with_reducible refine Below.drew ?_ | with_reducible refine Below.alloc ?_ (by first | omega | (simp; done) | (simp; omega)) _)) (hx3.mono (by first | omega | (simp; done) | (simp; omega))); have s3 := hx3.size; simp at s3; have z3a : w.heap.size < w3.heap.size := (by omega); have z3b : w.heap.size + 1 < w3.heap.size := (by omega)))
    all_goals
      go_wp2
      go_ret
      exact ⟨by rw [← ho]; rfl, (by repeat (first | with_reducible exact Below.refl _ _ | with_reducible exact B3 | with_reducible refine Below.setCell ?_ (by first | omega | (simp; done) | (simp; omega)) _ | with_reducible refine bDrewN ?_ _ | with_reducible refine Below.drew ?_ | with_reducible refine Below.alloc ?_ (by first | omega | (simp; done) | (simp; omega)) _))⟩
  | none =>
    simp only [hm] at mr
    have hv : opO .mul (ofW g) (ofW g) = none := by
      unfold ofW; split
      · rfl
      · exact hm
    rw [hv]
    have hn : ∀ (W : World) (r : Nat), FloatKind.f64.format.order r (nanA W (.nanBits .f64 g g)) = none := fun W r => order_nan_r (nanA_nan _ _ _)
    have he : leqB (ordO (normO a b) none) = false := by cases normO a b <;> rfl
    rw [he]
    clear hm lg hg hv he
    go_enter Try.func18, Try.ntmps18
    go_upto_region 1 with fail
    go_region_held_law (fun w' => w'.cell? ⟨w.heap.size, 0, none⟩ = some (.float .f64 x) ∧ w'.cell? ⟨w.heap.size, 1, none⟩ = some (.float .f64 y) ∧ w'.cell? ⟨w.heap.size + 1, 0, none⟩ = some (.float .f64 l) ∧ w'.cell? ⟨w.heap.size + 1, 1, none⟩ = some (.float .f64 m) ∧ w'.cell? ⟨w.heap.size + 1, 2, none⟩ = some (.float .f64 g)) (first | (simp [go_sem]; done) | (simp [go_sem, *]; done)) (first
      | (go_at_call 11; refine (implNorm_any hx hy _).mono ?_; rintro e w3 ⟨r, rfl, hr, hx3⟩; obtain ⟨hc3, hf3⟩ := bcell hx3; have B3 : Below w.heap.size w w3 := Below.trans (by repeat (first | with_reducible exact Below.refl _ _ | with_reducible refine Below.setCell ?_ (by first | omega | (simp; done) | (simp; omega)) _ | with_reducible refine bDrewN ?_ _ | with_reducible refine Below.drew ?_ | with_reducible refine Below.alloc ?_ (by first | omega | (simp; done) | (simp; omega)) _)) (hx3.mono (by first | omega | (simp; done) | (simp; omega))); have s3 := hx3.size; simp at s3; have z3a : w.heap.size < w3.heap.size := (by omega); have z3b : w.heap.size + 1 < w3.heap.size := (by omega)))
    all_goals
      go_wp2
      go_ret
      exact ⟨by simp, (by repeat (first | with_reducible exact Below.refl _ _ | with_reducible exact B3 | with_reducible refine Below.setCell ?_ (by first | omega | (simp; done) | (simp; omega)) _ | with_reducible refine bDrewN ?_ _ | with_reducible refine Below.drew ?_ | with_reducible refine Below.alloc ?_ (by first | omega | (simp; done) | (simp; omega)) _))⟩
theorem implCapable_any {x y : Nat} {a b : Option Nat} (hx : Fl x a) (hy : Fl y b) (l m g : Nat) (lg : g < 18446744073709551616) (w : World) : Calls Try.prog 18 #[.agg #[.float .f64 x, .float .f64 y], .agg #[.float .f64 l, .float .f64 m, .float .f64 g]] w fun e w' => e = .returned (.bool (leqB (FloatKind.f64.format.order l x) && leqB (FloatKind.f64.format.order x m) && leqB (ordO (normO a b) (opO .mul (ofW g) (ofW g))))) ∧ Below w.heap.size w w' := by
  cases h1 : (FloatKind.f64.format.order l x == some .lt || FloatKind.f64.format.order l x == some .eq) with
  | false =>
    have e1 : leqB (FloatKind.f64.format.order l x) = false := h1
    rw [e1]; exact implCapable_no1 hx hy l m g lg w h1
  | true =>
    have e1 : leqB (FloatKind.f64.format.order l x) = true := h1
    cases h2 : (FloatKind.f64.format.order x m == some .lt || FloatKind.f64.format.order x m == some .eq) with
    | false =>
      have e2 : leqB (FloatKind.f64.format.order x m) = false := h2
      rw [e1, e2]; exact implCapable_no2 hx hy l m g lg w h1 h2
    | true =>
      have e2 : leqB (FloatKind.f64.format.order x m) = true := h2
      rw [e1, e2]; exact implCapable_yes hx hy l m g lg w h1 h2
end Go.Proofs.Ytooanlcpbebhlaa
