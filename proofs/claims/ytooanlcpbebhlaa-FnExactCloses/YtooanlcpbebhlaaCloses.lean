/-
What is proved: whether two sources may be put together, as the program says it, for every pairs and distance.
-/
import Derived.Test.YtooanlcpbebhlaaINorm
import Derived.Test.YtooanlcpbebhlaaISubPair
import Derived.Test.YtooanlcpbebhlaaIMulPair
import Derived.Test.YtooanlcpbebhlaaKnown
namespace Go.Proofs.Ytooanlcpbebhlaa
set_option maxRecDepth 40000
open Go.RowKit
set_option linter.unusedVariables false
set_option linter.unusedSimpArgs false

/-- Whether two pairs are near. -/
def leqB (o : Option Ordering) : Bool := o == some .lt || o == some .eq
def nearB (a b c d P : Option Nat) : Bool := leqB (ordO (normO (opO .sub a c) (opO .sub b d)) (opO .mul P P))
def apartB : Nat → Bool := fun p => knownB p && (FloatKind.f64.format.order p 0 == some .gt)
set_option maxHeartbeats 1000000 in
theorem pairsNear_any {x y z u p : Nat} {a b c d P : Option Nat} (hx : Fl x a) (hy : Fl y b) (hz : Fl z c) (hu : Fl u d) (hp : Fl p P) (w : World) : Calls Try.prog 39 #[.agg #[.float .f64 x, .float .f64 y], .agg #[.float .f64 z, .float .f64 u], .float .f64 p] w fun e w' => e = .returned (.bool (nearB a b c d P)) ∧ Below w.heap.size w w' := by
  go_enter Try.func39, Try.ntmps39
  go_wp2_with fail
  refine (implSubPair_any hx hy hz hu _).mono ?_
  rintro e w1 ⟨r, i, rfl, hr, hi, h1⟩
  have B1 : Below w.heap.size w w1 := Below.trans (by repeat (first | with_reducible exact Below.refl _ _ | with_reducible refine Below.setCell ?_ (by first | omega | (simp; done) | (simp; omega)) _ | with_reducible refine bDrewN ?_ _ | with_reducible refine Below.drew ?_ | with_reducible refine Below.alloc ?_ (by first | omega | (simp; done) | (simp; omega)) _)) (h1.mono (by first | omega | (simp; done) | (simp; omega)))
  have s1 := B1.size
  clear h1
  go_wp2_with fail
  refine (implNorm_any hr hi _).mono ?_
  rintro e w2 ⟨n, rfl, hn, h2⟩
  have B2 : Below w.heap.size w w2 := B1.trans (h2.mono s1)
  clear h2
  go_wp2_with (first
    | (refine list_fop .mul rfl 22 22 (.tmp 11) (.tmp 12) (by rfl) (by rfl) (by rfl) (by rfl) hp hp ?_; intro m k hm))
  have ho := fl_order hn hm
  go_ret
  exact ⟨by unfold nearB leqB; rw [← ho]; rfl, (by repeat (first | with_reducible exact Below.refl _ _ | with_reducible exact B2 | with_reducible refine Below.setCell ?_ (by first | omega | (simp; done) | (simp; omega)) _ | with_reducible refine bDrewN ?_ _ | with_reducible refine Below.drew ?_ | with_reducible refine Below.alloc ?_ (by first | omega | (simp; done) | (simp; omega)) _))⟩
set_option maxHeartbeats 1200000 in
theorem implCloses_no {x y z u p s t : Nat} {a b c d P ee ff : Option Nat} (hx : Fl x a) (hy : Fl y b) (hz : Fl z c) (hu : Fl u d) (hp : Fl p P) (hs : Fl s ee) (ht : Fl t ff) (w : World) (h : apartB p = false) : Calls Try.prog 20 #[.agg #[.float .f64 x, .float .f64 y], .agg #[.float .f64 z, .float .f64 u], .float .f64 p, .agg #[.float .f64 s, .float .f64 t]] w fun e w' => e = .returned (.bool false) ∧ Below w.heap.size w w' := by
  go_enter Try.func20, Try.ntmps20
  go_wp2_with fail
  refine (implKnown_any p hp.1 _).mono ?_
  rintro e w1 ⟨rfl, n1, rfl⟩
  cases hb : knownB p with
  | false =>
    clear h
    go_wp2
    go_ret
    exact ⟨rfl, (by repeat (first | with_reducible exact Below.refl _ _ | with_reducible refine Below.setCell ?_ (by first | omega | (simp; done) | (simp; omega)) _ | with_reducible refine bDrewN ?_ _ | with_reducible refine Below.drew ?_ | with_reducible refine Below.alloc ?_ (by first | omega | (simp; done) | (simp; omega)) _))⟩
  | true =>
    unfold apartB at h
    rw [hb, Bool.true_and] at h
    have hr : rg p ≤ INF := Nat.le_of_lt (of_decide_eq_true hb)
    have ho := order_zero hr
    cases hq : FloatKind.f64.format.order p 0 with
    | none => rw [hq] at ho; cases ho
    | some o =>
      rw [hq] at h
      clear ho hr
      cases o with
      | gt => cases h
      | lt =>
        clear h
        go_wp2
        go_ret
        exact ⟨rfl, (by repeat (first | with_reducible exact Below.refl _ _ | with_reducible refine Below.setCell ?_ (by first | omega | (simp; done) | (simp; omega)) _ | with_reducible refine bDrewN ?_ _ | with_reducible refine Below.drew ?_ | with_reducible refine Below.alloc ?_ (by first | omega | (simp; done) | (simp; omega)) _))⟩
      | eq =>
        clear h
        go_wp2
        go_ret
        exact ⟨rfl, (by repeat (first | with_reducible exact Below.refl _ _ | with_reducible refine Below.setCell ?_ (by first | omega | (simp; done) | (simp; omega)) _ | with_reducible refine bDrewN ?_ _ | with_reducible refine Below.drew ?_ | with_reducible refine Below.alloc ?_ (by first | omega | (simp; done) | (simp; omega)) _))⟩

set_option maxHeartbeats 2000000 in
theorem implCloses_yes {x y z u p s t : Nat} {a b c d P ee ff : Option Nat} (hx : Fl x a) (hy : Fl y b) (hz : Fl z c) (hu : Fl u d) (hp : Fl p P) (hs : Fl s ee) (ht : Fl t ff) (w : World) (h : apartB p = true) : Calls Try.prog 20 #[.agg #[.float .f64 x, .float .f64 y], .agg #[.float .f64 z, .float .f64 u], .float .f64 p, .agg #[.float .f64 s, .float .f64 t]] w fun e w' => e = .returned (.bool (nearB a b c d P && nearB a b (mulRe c d ee ff) (mulIm c d ee ff) P)) ∧ Below w.heap.size w w' := by
  have st := store_fp
  unfold apartB at h
  rw [Bool.and_eq_true] at h
  obtain ⟨hb, hq⟩ := h
  have hq' : FloatKind.f64.format.order p 0 = some .gt := eq_of_beq hq
  clear hq
  go_enter Try.func20, Try.ntmps20
  go_wp2_with fail
  refine (implKnown_any p hp.1 _).mono ?_
  rintro e w1 ⟨rfl, n1, rfl⟩
  rw [hb]
  go_wp2_with fail
  refine (implMulPair_any hz hu hs ht _).mono ?_
  rintro e w2 ⟨r, i, rfl, hr, hi, h2⟩
  obtain ⟨wd, hwd⟩ : ∃ wd, wd = ((w.alloc (.cells #[.float .f64 x, .float .f64 y] 26)).alloc (.cells #[.float .f64 z, .float .f64 u] 26)).alloc (.cells #[.float .f64 s, .float .f64 t] 26) := ⟨_, rfl⟩
  have q0 : wd.cell? ⟨w.heap.size, 0, none⟩ = some (.float .f64 x) := by rw [hwd]; simp [go_sem]
  have q1 : wd.cell? ⟨w.heap.size, 1, none⟩ = some (.float .f64 y) := by rw [hwd]; simp [go_sem]
  have q2 : wd.cell? ⟨w.heap.size + 1, 0, none⟩ = some (.float .f64 z) := by rw [hwd]; simp [go_sem]
  have q3 : wd.cell? ⟨w.heap.size + 1, 1, none⟩ = some (.float .f64 u) := by rw [hwd]; simp [go_sem]
  have z0 : w.heap.size < wd.heap.size := by rw [hwd]; simp; omega
  have z1 : w.heap.size + 1 < wd.heap.size := by rw [hwd]; simp
  have B0 : Below w.heap.size w wd := by rw [hwd]; exact (by repeat (first | with_reducible exact Below.refl _ _ | with_reducible refine Below.setCell ?_ (by first | omega | (simp; done) | (simp; omega)) _ | with_reducible refine bDrewN ?_ _ | with_reducible refine Below.drew ?_ | with_reducible refine Below.alloc ?_ (by first | omega | (simp; done) | (simp; omega)) _))
  have B2 : Below wd.heap.size wd w2 := by rw [hwd]; exact Below.trans (by repeat (first | with_reducible exact Below.refl _ _ | with_reducible refine Below.setCell ?_ (by first | omega | (simp; done) | (simp; omega)) _ | with_reducible refine bDrewN ?_ _ | with_reducible refine Below.drew ?_ | with_reducible refine Below.alloc ?_ (by first | omega | (simp; done) | (simp; omega)) _)) (h2.mono (by first | omega | (simp; done) | (simp; omega)))
  have s2 := B2.size
  clear hwd h2
  go_upto_region 4 with fail
  obtain ⟨we, hwe⟩ : ∃ we, we = w2.alloc (.cells #[.float .f64 r, .float .f64 i] 26) := ⟨_, rfl⟩
  rw [← hwe]
  have B3 : Below wd.heap.size wd we := by rw [hwe]; exact B2.alloc s2 _
  have k0 : we.cell? ⟨w2.heap.size, 0, none⟩ = some (.float .f64 r) := by rw [hwe]; simp [go_sem]
  have k1 : we.cell? ⟨w2.heap.size, 1, none⟩ = some (.float .f64 i) := by rw [hwe]; simp [go_sem]
  have y2 : w2.heap.size < we.heap.size := by rw [hwe]; simp
  have p0 := (B3.cell (p := ⟨w.heap.size, 0, none⟩) z0).trans q0
  have p1 := (B3.cell (p := ⟨w.heap.size, 1, none⟩) z0).trans q1
  have p2 := (B3.cell (p := ⟨w.heap.size + 1, 0, none⟩) z1).trans q2
  have p3 := (B3.cell (p := ⟨w.heap.size + 1, 1, none⟩) z1).trans q3
  have s3 := B3.size
  clear hwe B2 q0 q1 q2 q3
  go_wp2_with fail
  refine (pairsNear_any hx hy hz hu hp _).mono ?_
  rintro e w3 ⟨rfl, h3⟩
  have B4 : Below we.heap.size we w3 := Below.trans (by repeat (first | with_reducible exact Below.refl _ _ | with_reducible refine Below.setCell ?_ (by first | omega | (simp; done) | (simp; omega)) _ | with_reducible refine bDrewN ?_ _ | with_reducible refine Below.drew ?_ | with_reducible refine Below.alloc ?_ (by first | omega | (simp; done) | (simp; omega)) _)) (h3.mono (by first | omega | (simp; done) | (simp; omega)))
  have k0' := (B4.cell (p := ⟨w2.heap.size, 0, none⟩) y2).trans k0
  have k1' := (B4.cell (p := ⟨w2.heap.size, 1, none⟩) y2).trans k1
  have p0' := (B4.cell (p := ⟨w.heap.size, 0, none⟩) (Nat.lt_of_lt_of_le z0 s3)).trans p0
  have p1' := (B4.cell (p := ⟨w.heap.size, 1, none⟩) (Nat.lt_of_lt_of_le z0 s3)).trans p1
  have B5 : Below w.heap.size w w3 := B0.trans ((B3.trans (B4.mono s3)).mono B0.size)
  have s5 := B5.size
  clear p0 p1 p2 p3 k0 k1 h3 B3 B4
  cases hn : nearB a b c d P with
  | false =>
    go_wp2
    go_ret
    exact ⟨by rw [hn]; rfl, B5⟩
  | true =>
    go_wp2_with fail
    refine (pairsNear_any hx hy hr hi hp _).mono ?_
    rintro e w4 ⟨rfl, h4⟩
    have B6 : Below w.heap.size w w4 := B5.trans (h4.mono s5)
    go_wp2
    go_ret
    exact ⟨by rw [hn]; rfl, B6⟩
theorem implCloses_any {x y z u p s t : Nat} {a b c d P ee ff : Option Nat} (hx : Fl x a) (hy : Fl y b) (hz : Fl z c) (hu : Fl u d) (hp : Fl p P) (hs : Fl s ee) (ht : Fl t ff) (w : World) : Calls Try.prog 20 #[.agg #[.float .f64 x, .float .f64 y], .agg #[.float .f64 z, .float .f64 u], .float .f64 p, .agg #[.float .f64 s, .float .f64 t]] w fun e w' => e = .returned (.bool (apartB p && (nearB a b c d P && nearB a b (mulRe c d ee ff) (mulIm c d ee ff) P))) ∧ Below w.heap.size w w' := by
  cases h : apartB p with
  | false => exact implCloses_no hx hy hz hu hp hs ht w h
  | true => exact implCloses_yes hx hy hz hu hp hs ht w h
end Go.Proofs.Ytooanlcpbebhlaa
