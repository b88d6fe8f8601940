/-
What is proved: that the specification tells two sources that are not near not to be put together.
-/
import Derived.Test.YtooanlcpbebhlaaCloses
import Derived.Deep.RegionHeldLaw
namespace Go.Proofs.Ytooanlcpbebhlaa
set_option maxRecDepth 40000
open Go.RowKit
set_option linter.unusedVariables false
set_option linter.unusedSimpArgs false

theorem keep6 {W W' : World} {p q r : Nat} {a b c d e f : Value} (h0 : W.cell? ⟨p, 0, none⟩ = some a) (h1 : W.cell? ⟨p, 1, none⟩ = some b) (h2 : W.cell? ⟨q, 0, none⟩ = some c) (h3 : W.cell? ⟨q, 1, none⟩ = some d) (h4 : W.cell? ⟨r, 0, none⟩ = some e) (h5 : W.cell? ⟨r, 1, none⟩ = some f)
    (hp : p < W.heap.size) (hq : q < W.heap.size) (hr : r < W.heap.size) (hb : Below W.heap.size W W') : W'.cell? ⟨p, 0, none⟩ = some a ∧ W'.cell? ⟨p, 1, none⟩ = some b ∧ W'.cell? ⟨q, 0, none⟩ = some c ∧ W'.cell? ⟨q, 1, none⟩ = some d ∧ W'.cell? ⟨r, 0, none⟩ = some e ∧ W'.cell? ⟨r, 1, none⟩ = some f :=
  ⟨(hb.cell (p := ⟨p, 0, none⟩) hp).trans h0, (hb.cell (p := ⟨p, 1, none⟩) hp).trans h1, (hb.cell (p := ⟨q, 0, none⟩) hq).trans h2, (hb.cell (p := ⟨q, 1, none⟩) hq).trans h3, (hb.cell (p := ⟨r, 0, none⟩) hr).trans h4, (hb.cell (p := ⟨r, 1, none⟩) hr).trans h5⟩
set_option maxHeartbeats 1200000 in
theorem specCloses_no {x y z u p s t : Nat} {a b c d P ee ff : Option Nat} (hx : Fl x a) (hy : Fl y b) (hz : Fl z c) (hu : Fl u d) (hp : Fl p P) (hs : Fl s ee) (ht : Fl t ff) (w : World) (h : apartB p = false) : Calls Try.prog 19 #[.agg #[.float .f64 x, .float .f64 y], .agg #[.float .f64 z, .float .f64 u], .float .f64 p, .agg #[.float .f64 s, .float .f64 t]] w fun e w' => e = .returned (.bool false) ∧ Below w.heap.size w w' := by
  go_enter Try.func19, Try.ntmps19
  go_wp2_with fail
  refine (specKnown_any p _).mono ?_
  rintro e w1 ⟨rfl, n1, rfl⟩
  cases hb : knownB p with
  | false =>
    clear h
    go_wp2
    go_ret
    exact ⟨rfl, (by repeat (first | with_reducible exact Below.refl _ _ | with_reducible refine Below.setCell ?_ (by first | omega | (simp; done) | (simp; omega)) _ | with_reducible refine bDrewN ?_ _ | with_reducible refine Below.drew ?_ | with_reducible refine Below.alloc ?_ (by first | omega | (simp; done) | (simp; omega)) _))⟩
  | true =>
    unfold apartB at h
    rw [hb, Bool.true_and] at h
    go_wp2
    go_ret
    exact ⟨rfl, (by repeat (first | with_reducible exact Below.refl _ _ | with_reducible refine Below.setCell ?_ (by first | omega | (simp; done) | (simp; omega)) _ | with_reducible refine bDrewN ?_ _ | with_reducible refine Below.drew ?_ | with_reducible refine Below.alloc ?_ (by first | omega | (simp; done) | (simp; omega)) _))⟩

set_option maxHeartbeats 12000000 in
theorem specCloses_far {x y z u p s t : Nat} {a b c d P ee ff : Option Nat} (hx : Fl x a) (hy : Fl y b) (hz : Fl z c) (hu : Fl u d) (hp : Fl p P) (hs : Fl s ee) (ht : Fl t ff) (w : World) (h : apartB p = true) (hn : nearB a b c d P = false) : Calls Try.prog 19 #[.agg #[.float .f64 x, .float .f64 y], .agg #[.float .f64 z, .float .f64 u], .float .f64 p, .agg #[.float .f64 s, .float .f64 t]] w fun e w' => e = .returned (.bool (nearB a b c d P && nearB a b (mulRe c d ee ff) (mulIm c d ee ff) P)) ∧ Below w.heap.size w w' := by
  unfold apartB at h
  rw [Bool.and_eq_true] at h
  obtain ⟨hb, hq⟩ := h
  go_enter Try.func19, Try.ntmps19
  go_wp2_with fail
  refine (specKnown_any p _).mono ?_
  rintro e w1 ⟨rfl, n1, rfl⟩
  rw [hb]
  go_upto_region 4 with (first
    | (refine list_fop .mul rfl 22 22 (.tmp 18) (.tmp 19) (by rfl) (by rfl) (by rfl) (by rfl) hp hp ?_; intro m n2 hm))
  clear hb hq
  obtain ⟨wd, hwd⟩ : ∃ wd, wd = (((w.alloc (.cells #[.float .f64 x, .float .f64 y] 26)).alloc (.cells #[.float .f64 z, .float .f64 u] 26)).alloc (.cells #[.float .f64 s, .float .f64 t] 26)).drewN (n1 + n2) := ⟨_, rfl⟩
  rw [← hwd]
  have q0 : wd.cell? ⟨w.heap.size, 0, none⟩ = some (.float .f64 x) := by rw [hwd]; simp [go_sem]
  have q1 : wd.cell? ⟨w.heap.size, 1, none⟩ = some (.float .f64 y) := by rw [hwd]; simp [go_sem]
  have q2 : wd.cell? ⟨w.heap.size + 1, 0, none⟩ = some (.float .f64 z) := by rw [hwd]; simp [go_sem]
  have q3 : wd.cell? ⟨w.heap.size + 1, 1, none⟩ = some (.float .f64 u) := by rw [hwd]; simp [go_sem]
  have q4 : wd.cell? ⟨w.heap.size + 1 + 1, 0, none⟩ = some (.float .f64 s) := by rw [hwd]; simp [go_sem]
  have q5 : wd.cell? ⟨w.heap.size + 1 + 1, 1, none⟩ = some (.float .f64 t) := by rw [hwd]; simp [go_sem]
  have z0 : w.heap.size < wd.heap.size := by rw [hwd]; simp; omega
  have z1 : w.heap.size + 1 < wd.heap.size := by rw [hwd]; simp
  have z2 : w.heap.size + 1 + 1 < wd.heap.size := by rw [hwd]; simp
  have B0 : Below w.heap.size w wd := by rw [hwd]; exact (by repeat (first | with_reducible exact Below.refl _ _ | with_reducible refine Below.setCell ?_ (by first | omega | (simp; done) | (simp; omega)) _ | with_reducible refine bDrewN ?_ _ | with_reducible refine Below.drew ?_ | with_reducible refine Below.alloc ?_ (by first | omega | (simp; done) | (simp; omega)) _))
  have s0 := B0.size
  clear hwd
  go_cut [8] (fun s wx => s = .bool false ∧ Below w.heap.size w wx)
  case first =>
    first | (go_region_with (first
    | (go_at_call_of 36 (Value.float FloatKind.f64 z); refine (specSubPair_any hx hy hz hu _).mono ?_; rintro e w3 ⟨r, i, rfl, hr, hi, h3⟩; have B3 : Below wd.heap.size wd w3 := Below.trans (by repeat (first | with_reducible exact Below.refl _ _ | with_reducible refine Below.setCell ?_ (by first | omega | (simp; done) | (simp; omega)) _ | with_reducible refine bDrewN ?_ _ | with_reducible refine Below.drew ?_ | with_reducible refine Below.alloc ?_ (by first | omega | (simp; done) | (simp; omega)) _)) (h3.mono (by first | omega | (simp; done) | (simp; omega))); have s3 := B3.size)
    | (go_at_call_of 9 (Value.float FloatKind.f64 r); refine (specNorm_any hr hi _).mono ?_; rintro e w4 ⟨n, rfl, hn1, h4⟩; have B4 : Below wd.heap.size wd w4 := Below.trans (by repeat (first | with_reducible exact Below.refl _ _ | with_reducible exact B3 | with_reducible refine Below.setCell ?_ (by first | omega | (simp; done) | (simp; omega)) _ | with_reducible refine bDrewN ?_ _ | with_reducible refine Below.drew ?_ | with_reducible refine Below.alloc ?_ (by first | omega | (simp; done) | (simp; omega)) _)) (h4.mono (by first | omega | (simp; done) | (simp; omega))); have s4 := B4.size; have ho : (FloatKind.f64.format.order n m == some .lt || FloatKind.f64.format.order n m == some .eq) = false := (by rw [fl_order hn1 hm]; exact hn)))) | fail
    all_goals
      have Bx : Below w.heap.size w w4 := B0.trans (B4.mono s0)
      go_wp2_with fail
      go_meet
      case rel => exact ⟨rfl, (by repeat (first | with_reducible exact Below.refl _ _ | with_reducible exact Bx | with_reducible refine Below.setCell ?_ (by first | omega | (simp; done) | (simp; omega)) _ | with_reducible refine bDrewN ?_ _ | with_reducible refine Below.drew ?_ | with_reducible refine Below.alloc ?_ (by first | omega | (simp; done) | (simp; omega)) _))⟩
  case rest =>
    obtain ⟨rfl, hB⟩ := hcut
    go_wp2
    go_ret
    exact ⟨by rw [hn]; rfl, hB⟩
end Go.Proofs.Ytooanlcpbebhlaa
