/-
What is proved: whether two sources may be put together, as the specification says it, for every pairs and distance.
-/
import Derived.Test.YtooanlcpbebhlaaClosesF
import Derived.Deep.RegionHeldLaw
namespace Go.Proofs.Ytooanlcpbebhlaa
set_option maxRecDepth 40000
open Go.RowKit
set_option linter.unusedVariables false
set_option linter.unusedSimpArgs false

set_option maxHeartbeats 2000000 in
theorem specCloses_near {x y z u p s t : Nat} {a b c d P ee ff : Option Nat} (hx : Fl x a) (hy : Fl y b) (hz : Fl z c) (hu : Fl u d) (hp : Fl p P) (hs : Fl s ee) (ht : Fl t ff) (w : World) (h : apartB p = true) (hn : nearB a b c d P = true) : Calls Try.prog 19 #[.agg #[.float .f64 x, .float .f64 y], .agg #[.float .f64 z, .float .f64 u], .float .f64 p, .agg #[.float .f64 s, .float .f64 t]] w fun e w' => e = .returned (.bool (nearB a b c d P && nearB a b (mulRe c d ee ff) (mulIm c d ee ff) P)) ∧ Below w.heap.size w w' := by
  unfold apartB at h
  rw [Bool.and_eq_true] at h
  obtain ⟨hb, hq⟩ := h
  go_enter Try.func19, Try.ntmps19
  go_wp2_with fail
  refine (specKnown_any p _).mono ?_
  rintro e w1 ⟨rfl, n1, rfl⟩
  rw [hb]
  go_upto_region 4 with (first
    | (refine list_fop .mul rfl 22 22 (.tmp 18) (.tmp 19) (by rfl) (by rfl) (by rfl) (by rfl) hp hp ?_; intro m n2 hm))
  clear hb hq
  obtain ⟨wd, hwd⟩ : ∃ wd, wd = (((w.alloc (.cells #[.float .f64 x, .float .f64 y] 26)).alloc (.cells #[.float .f64 z, .float .f64 u] 26)).alloc (.cells #[.float .f64 s, .float .f64 t] 26)).drewN (n1 + n2) := ⟨_, rfl⟩
  rw [← hwd]
  have q0 : wd.cell? ⟨w.heap.size, 0, none⟩ = some (.float .f64 x) := by rw [hwd]; simp [go_sem]
  have q1 : wd.cell? ⟨w.heap.size, 1, none⟩ = some (.float .f64 y) := by rw [hwd]; simp [go_sem]
  have q2 : wd.cell? ⟨w.heap.size + 1, 0, none⟩ = some (.float .f64 z) := by rw [hwd]; simp [go_sem]
  have q3 : wd.cell? ⟨w.heap.size + 1, 1, none⟩ = some (.float .f64 u) := by rw [hwd]; simp [go_sem]
  have q4 : wd.cell? ⟨w.heap.size + 1 + 1, 0, none⟩ = some (.float .f64 s) := by rw [hwd]; simp [go_sem]
  have q5 : wd.cell? ⟨w.heap.size + 1 + 1, 1, none⟩ = some (.float .f64 t) := by rw [hwd]; simp [go_sem]
  have z0 : w.heap.size < wd.heap.size := by rw [hwd]; simp; omega
  have z1 : w.heap.size + 1 < wd.heap.size := by rw [hwd]; simp
  have z2 : w.heap.size + 1 + 1 < wd.heap.size := by rw [hwd]; simp
  have B0 : Below w.heap.size w wd := by rw [hwd]; exact (by repeat (first | with_reducible exact Below.refl _ _ | with_reducible refine Below.setCell ?_ (by first | omega | (simp; done) | (simp; omega)) _ | with_reducible refine bDrewN ?_ _ | with_reducible refine Below.drew ?_ | with_reducible refine Below.alloc ?_ (by first | omega | (simp; done) | (simp; omega)) _))
  have s0 := B0.size
  clear hwd
  go_region_held3 (fun w' => w'.cell? ⟨w.heap.size, 0, none⟩ = some (.float .f64 x) ∧ w'.cell? ⟨w.heap.size, 1, none⟩ = some (.float .f64 y) ∧ w'.cell? ⟨w.heap.size + 1, 0, none⟩ = some (.float .f64 z) ∧ w'.cell? ⟨w.heap.size + 1, 1, none⟩ = some (.float .f64 u) ∧ w'.cell? ⟨w.heap.size + 1 + 1, 0, none⟩ = some (.float .f64 s) ∧ w'.cell? ⟨w.heap.size + 1 + 1, 1, none⟩ = some (.float .f64 t)) (first | (refine keep6 q0 q1 q2 q3 q4 q5 z0 z1 z2 ?_; exact (by repeat (first | with_reducible exact Below.refl _ _ | with_reducible exact B7 | with_reducible exact B6 | with_reducible exact B5 | with_reducible exact B4 | with_reducible exact B3 | with_reducible refine Below.setCell ?_ (by first | omega | (simp; done) | (simp; omega)) _ | with_reducible refine bDrewN ?_ _ | with_reducible refine Below.drew ?_ | with_reducible refine Below.alloc ?_ (by first | omega | (simp; done) | (simp; omega)) _)))) (first
    | (go_at_call_of 36 (Value.float FloatKind.f64 z); refine (specSubPair_any hx hy hz hu _).mono ?_; rintro e w3 ⟨r, i, rfl, hr, hi, h3⟩; have B3 : Below wd.heap.size wd w3 := Below.trans (by repeat (first | with_reducible exact Below.refl _ _ | with_reducible refine Below.setCell ?_ (by first | omega | (simp; done) | (simp; omega)) _ | with_reducible refine bDrewN ?_ _ | with_reducible refine Below.drew ?_ | with_reducible refine Below.alloc ?_ (by first | omega | (simp; done) | (simp; omega)) _)) (h3.mono (by first | omega | (simp; done) | (simp; omega))); have s3 := B3.size)
    | (go_at_call_of 9 (Value.float FloatKind.f64 r); refine (specNorm_any hr hi _).mono ?_; rintro e w4 ⟨n, rfl, hn1, h4⟩; have B4 : Below wd.heap.size wd w4 := Below.trans (by repeat (first | with_reducible exact Below.refl _ _ | with_reducible exact B3 | with_reducible refine Below.setCell ?_ (by first | omega | (simp; done) | (simp; omega)) _ | with_reducible refine bDrewN ?_ _ | with_reducible refine Below.drew ?_ | with_reducible refine Below.alloc ?_ (by first | omega | (simp; done) | (simp; omega)) _)) (h4.mono (by first | omega | (simp; done) | (simp; omega))); have s4 := B4.size; have ho : (FloatKind.f64.format.order n m == some .lt || FloatKind.f64.format.order n m == some .eq) = true := (by rw [fl_order hn1 hm]; exact hn))
    | (go_at_call_of 30 (Value.float FloatKind.f64 s); refine (specMulPair_any hz hu hs ht _).mono ?_; rintro e w5 ⟨r', i', rfl, hr', hi', h5⟩; have B5 : Below wd.heap.size wd w5 := Below.trans (by repeat (first | with_reducible exact Below.refl _ _ | with_reducible exact B4 | with_reducible exact B3 | with_reducible refine Below.setCell ?_ (by first | omega | (simp; done) | (simp; omega)) _ | with_reducible refine bDrewN ?_ _ | with_reducible refine Below.drew ?_ | with_reducible refine Below.alloc ?_ (by first | omega | (simp; done) | (simp; omega)) _)) (h5.mono (by first | omega | (simp; done) | (simp; omega))); have s5 := B5.size)
    | (go_at_call_of 36 (Value.float FloatKind.f64 r'); refine (specSubPair_any hx hy hr' hi' _).mono ?_; rintro e w6 ⟨r2, i2, rfl, hr2, hi2, h6⟩; have B6 : Below wd.heap.size wd w6 := Below.trans (by repeat (first | with_reducible exact Below.refl _ _ | with_reducible exact B5 | with_reducible exact B4 | with_reducible exact B3 | with_reducible refine Below.setCell ?_ (by first | omega | (simp; done) | (simp; omega)) _ | with_reducible refine bDrewN ?_ _ | with_reducible refine Below.drew ?_ | with_reducible refine Below.alloc ?_ (by first | omega | (simp; done) | (simp; omega)) _)) (h6.mono (by first | omega | (simp; done) | (simp; omega))); have s6 := B6.size)
    | (go_at_call_of 9 (Value.float FloatKind.f64 r2); refine (specNorm_any hr2 hi2 _).mono ?_; rintro e w7 ⟨n2, rfl, hn2, h7⟩; have B7 : Below wd.heap.size wd w7 := Below.trans (by repeat (first | with_reducible exact Below.refl _ _ | with_reducible exact B6 | with_reducible exact B5 | with_reducible exact B4 | with_reducible exact B3 | with_reducible refine Below.setCell ?_ (by first | omega | (simp; done) | (simp; omega)) _ | with_reducible refine bDrewN ?_ _ | with_reducible refine Below.drew ?_ | with_reducible refine Below.alloc ?_ (by first | omega | (simp; done) | (simp; omega)) _)) (h7.mono (by first | omega | (simp; done) | (simp; omega))); have s7 := B7.size; have ho2 := fl_order hn2 hm))
  all_goals
    have Bx : Below w.heap.size w w7 := B0.trans (B7.mono s0)
    go_wp2
    go_ret
    exact ⟨by rw [hn, Bool.true_and]; unfold nearB leqB; rw [← ho2]; rfl, (by repeat (first | with_reducible exact Below.refl _ _ | with_reducible exact Bx | with_reducible refine Below.setCell ?_ (by first | omega | (simp; done) | (simp; omega)) _ | with_reducible refine bDrewN ?_ _ | with_reducible refine Below.drew ?_ | with_reducible refine Below.alloc ?_ (by first | omega | (simp; done) | (simp; omega)) _))⟩
theorem specCloses_any {x y z u p s t : Nat} {a b c d P ee ff : Option Nat} (hx : Fl x a) (hy : Fl y b) (hz : Fl z c) (hu : Fl u d) (hp : Fl p P) (hs : Fl s ee) (ht : Fl t ff) (w : World) : Calls Try.prog 19 #[.agg #[.float .f64 x, .float .f64 y], .agg #[.float .f64 z, .float .f64 u], .float .f64 p, .agg #[.float .f64 s, .float .f64 t]] w fun e w' => e = .returned (.bool (apartB p && (nearB a b c d P && nearB a b (mulRe c d ee ff) (mulIm c d ee ff) P))) ∧ Below w.heap.size w w' := by
  cases h : apartB p with
  | false => exact specCloses_no hx hy hz hu hp hs ht w h
  | true =>
    cases hn : nearB a b c d P with
    | false =>
      refine (specCloses_far hx hy hz hu hp hs ht w h hn).mono ?_
      rw [hn]; exact fun _ _ q => q
    | true =>
      refine (specCloses_near hx hy hz hu hp hs ht w h hn).mono ?_
      rw [hn]; exact fun _ _ q => q
end Go.Proofs.Ytooanlcpbebhlaa
