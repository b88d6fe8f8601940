/-
What is proved: whether two pairs differ too much, as both packages tell it.
-/
import Derived.Test.YtbekaoikpkenhaaZo
import Derived.Test.YtbekaoikpkenhaaIAddPair
import Derived.Test.YtbekaoikpkenhaaISubPair
import Derived.Test.YtbekaoikpkenhaaINorm
namespace Go.Proofs.Ytbekaoikpkenhaa
set_option maxRecDepth 40000
open Go.RowKit
set_option linter.unusedVariables false
set_option linter.unusedSimpArgs false

set_option maxRecDepth 20000 in
set_option maxHeartbeats 8000000 in
theorem specDiffers_any {x y z u l s : Nat} {a b g d ol os : Option Nat} (hx : Fl x a) (hy : Fl y b) (hz : Fl z g) (hu : Fl u d) (hl : Fl l ol) (hs : Fl s os) (w : World) : Calls Try.prog 16 #[.agg #[.float .f64 x, .float .f64 y], .agg #[.float .f64 z, .float .f64 u], .float .f64 l, .float .f64 s] w fun q w' => q = .returned (.bool (gtO (normO (opO .sub a g) (opO .sub b d)) (opO .add (opO .mul ol ol) (opO .mul (opO .mul os os) (normO (opO .add a g) (opO .add b d)))))) ∧ Below w.heap.size w w' := by
  go_enter Try.func16, Try.ntmps16
  go_wp2_with (first | (refine list_fop .mul rfl _ _ _ _ (by rfl) (by rfl) (by rfl) (by rfl) hs hs ?_; intro ss nss hss))
  refine (specAddPair_any hx hy hz hu _).mono ?_
  rintro q w1 ⟨r1, i1, rfl, hr1, hi1, h1⟩
  obtain ⟨hc, hf⟩ := bcell h1
  have q0 := hc w.heap.size 0 (by first | omega | (simp; done) | (simp; omega))
  have q1 := hc w.heap.size 1 (by first | omega | (simp; done) | (simp; omega))
  have k0 := hc (w.heap.size + 1) 0 (by first | omega | (simp; done) | (simp; omega))
  have k1 := hc (w.heap.size + 1) 1 (by first | omega | (simp; done) | (simp; omega))
  simp [go_sem] at q0 q1 k0 k1
  have z1 : w.heap.size + 1 < w1.heap.size := by have := h1.size; simp at this; omega
  have z0 : w.heap.size < w1.heap.size := by omega
  have B1 : Below w.heap.size w w1 := Below.trans (by repeat (first | with_reducible exact Below.refl _ _ | with_reducible refine Below.setCell ?_ (by first | omega | (simp; done) | (simp; omega)) _ | with_reducible refine bDrewN ?_ _ | with_reducible refine Below.drew ?_ | with_reducible refine Below.alloc ?_ (by first | omega | (simp; done) | (simp; omega)) _)) (h1.mono (by first | omega | (simp; done) | (simp; omega)))
  clear hc hf h1
  go_wp2_with fail
  refine (specNorm_any hr1 hi1 _).mono ?_
  rintro q w2 ⟨n1, rfl, hn1, h2⟩
  replace q0 := (h2.cell (p := ⟨w.heap.size, 0, none⟩) z0).trans q0
  replace k0 := (h2.cell (p := ⟨w.heap.size + 1, 0, none⟩) z1).trans k0
  replace q1 := (h2.cell (p := ⟨w.heap.size, 1, none⟩) z0).trans q1
  replace k1 := (h2.cell (p := ⟨w.heap.size + 1, 1, none⟩) z1).trans k1
  replace z0 := Nat.lt_of_lt_of_le z0 h2.size
  replace z1 := Nat.lt_of_lt_of_le z1 h2.size
  have B2 : Below w.heap.size w w2 := B1.trans (h2.mono B1.size)
  clear h2
  go_wp2_with (first | (refine list_fop .mul rfl _ _ _ _ (by rfl) (by rfl) (by rfl) (by rfl) hss hn1 ?_; intro tt ntt htt) | (refine list_fop .mul rfl _ _ _ _ (by rfl) (by rfl) (by rfl) (by rfl) hl hl ?_; intro ll nll hll))
  refine (specSubPair_any hx hy hz hu _).mono ?_
  rintro q w3 ⟨r2, i2, rfl, hr2, hi2, h3⟩
  have B3 : Below w.heap.size w w3 := Below.trans (by repeat (first | with_reducible exact Below.refl _ _ | with_reducible exact B2 | with_reducible refine Below.setCell ?_ (by first | omega | (simp; done) | (simp; omega)) _ | with_reducible refine bDrewN ?_ _ | with_reducible refine Below.drew ?_ | with_reducible refine Below.alloc ?_ (by first | omega | (simp; done) | (simp; omega)) _)) (h3.mono (by first | omega | (simp; done) | (simp; omega)))
  clear h3
  go_wp2_with fail
  refine (specNorm_any hr2 hi2 _).mono ?_
  rintro q w4 ⟨n2, rfl, hn2, h4⟩
  have B4 : Below w.heap.size w w4 := B3.trans (h4.mono B3.size)
  clear h4
  go_wp2_with (first | (refine list_fop .add rfl _ _ _ _ (by rfl) (by rfl) (by rfl) (by rfl) hll htt ?_; intro aa naa haa))
  go_ret
  exact ⟨ret_bool (gt_of hn2 haa), (by repeat (first | with_reducible exact Below.refl _ _ | with_reducible exact B4 | with_reducible refine Below.setCell ?_ (by first | omega | (simp; done) | (simp; omega)) _ | with_reducible refine bDrewN ?_ _ | with_reducible refine Below.drew ?_ | with_reducible refine Below.alloc ?_ (by first | omega | (simp; done) | (simp; omega)) _))⟩
set_option maxRecDepth 20000 in
set_option maxHeartbeats 8000000 in
theorem implDiffers_any {x y z u l s : Nat} {a b g d ol os : Option Nat} (hx : Fl x a) (hy : Fl y b) (hz : Fl z g) (hu : Fl u d) (hl : Fl l ol) (hs : Fl s os) (w : World) : Calls Try.prog 17 #[.agg #[.float .f64 x, .float .f64 y], .agg #[.float .f64 z, .float .f64 u], .float .f64 l, .float .f64 s] w fun q w' => q = .returned (.bool (gtO (normO (opO .sub a g) (opO .sub b d)) (opO .add (opO .mul ol ol) (opO .mul (opO .mul os os) (normO (opO .add a g) (opO .add b d)))))) ∧ Below w.heap.size w w' := by
  go_enter Try.func17, Try.ntmps17
  go_wp2_with (first | (refine list_fop .mul rfl _ _ _ _ (by rfl) (by rfl) (by rfl) (by rfl) hs hs ?_; intro ss nss hss))
  refine (implAddPair_any hx hy hz hu _).mono ?_
  rintro q w1 ⟨r1, i1, rfl, hr1, hi1, h1⟩
  obtain ⟨hc, hf⟩ := bcell h1
  have q0 := hc w.heap.size 0 (by first | omega | (simp; done) | (simp; omega))
  have q1 := hc w.heap.size 1 (by first | omega | (simp; done) | (simp; omega))
  have k0 := hc (w.heap.size + 1) 0 (by first | omega | (simp; done) | (simp; omega))
  have k1 := hc (w.heap.size + 1) 1 (by first | omega | (simp; done) | (simp; omega))
  simp [go_sem] at q0 q1 k0 k1
  have z1 : w.heap.size + 1 < w1.heap.size := by have := h1.size; simp at this; omega
  have z0 : w.heap.size < w1.heap.size := by omega
  have B1 : Below w.heap.size w w1 := Below.trans (by repeat (first | with_reducible exact Below.refl _ _ | with_reducible refine Below.setCell ?_ (by first | omega | (simp; done) | (simp; omega)) _ | with_reducible refine bDrewN ?_ _ | with_reducible refine Below.drew ?_ | with_reducible refine Below.alloc ?_ (by first | omega | (simp; done) | (simp; omega)) _)) (h1.mono (by first | omega | (simp; done) | (simp; omega)))
  clear hc hf h1
  go_wp2_with fail
  refine (implNorm_any hr1 hi1 _).mono ?_
  rintro q w2 ⟨n1, rfl, hn1, h2⟩
  replace q0 := (h2.cell (p := ⟨w.heap.size, 0, none⟩) z0).trans q0
  replace k0 := (h2.cell (p := ⟨w.heap.size + 1, 0, none⟩) z1).trans k0
  replace q1 := (h2.cell (p := ⟨w.heap.size, 1, none⟩) z0).trans q1
  replace k1 := (h2.cell (p := ⟨w.heap.size + 1, 1, none⟩) z1).trans k1
  replace z0 := Nat.lt_of_lt_of_le z0 h2.size
  replace z1 := Nat.lt_of_lt_of_le z1 h2.size
  have B2 : Below w.heap.size w w2 := B1.trans (h2.mono B1.size)
  clear h2
  go_wp2_with (first | (refine list_fop .mul rfl _ _ _ _ (by rfl) (by rfl) (by rfl) (by rfl) hss hn1 ?_; intro tt ntt htt))
  refine (implSubPair_any hx hy hz hu _).mono ?_
  rintro q w3 ⟨r2, i2, rfl, hr2, hi2, h3⟩
  have B3 : Below w.heap.size w w3 := Below.trans (by repeat (first | with_reducible exact Below.refl _ _ | with_reducible exact B2 | with_reducible refine Below.setCell ?_ (by first | omega | (simp; done) | (simp; omega)) _ | with_reducible refine bDrewN ?_ _ | with_reducible refine Below.drew ?_ | with_reducible refine Below.alloc ?_ (by first | omega | (simp; done) | (simp; omega)) _)) (h3.mono (by first | omega | (simp; done) | (simp; omega)))
  clear h3
  go_wp2_with fail
  refine (implNorm_any hr2 hi2 _).mono ?_
  rintro q w4 ⟨n2, rfl, hn2, h4⟩
  have B4 : Below w.heap.size w w4 := B3.trans (h4.mono B3.size)
  clear h4
  go_wp2_with (first | (refine list_fop .mul rfl _ _ _ _ (by rfl) (by rfl) (by rfl) (by rfl) hl hl ?_; intro ll nll hll) | (refine list_fop .add rfl _ _ _ _ (by rfl) (by rfl) (by rfl) (by rfl) hll htt ?_; intro aa naa haa))
  go_ret
  exact ⟨ret_bool (gt_of hn2 haa), (by repeat (first | with_reducible exact Below.refl _ _ | with_reducible exact B4 | with_reducible refine Below.setCell ?_ (by first | omega | (simp; done) | (simp; omega)) _ | with_reducible refine bDrewN ?_ _ | with_reducible refine Below.drew ?_ | with_reducible refine Below.alloc ?_ (by first | omega | (simp; done) | (simp; omega)) _))⟩
end Go.Proofs.Ytbekaoikpkenhaa
