/-
What is proved: what a day does to a basin, in numbers; that a height of a curve is small.
-/
import Derived.Test.YtiamhpopgnblcaaBasin
import Derived.Test.YtiamhpopgnblcaaAlongA
import Derived.Test.YtiamhpopgnblcaaAlongF
namespace Go.Proofs.Ytiamhpopgnblcaa
set_option maxRecDepth 40000
open Go.RowKit
set_option linter.unusedVariables false
set_option linter.unusedSimpArgs false

/-- What goes out, what is spilt. -/
def askV (k s y : Int) : Int := if k < s - y then s - y else k
def outV (k s y : Int) : Int := if askV k s y < s then askV k s y else s
def splV (k s y full : Int) : Int := if 0 < s - outV k s y - full then s - outV k s y - full else 0
def goodB (S I O P full q k : Int) (ok : Bool) : Bool := basB S I O P && (watB q k && (inB 0 1000000000000 full && (ok && decide (I + q ≤ 1000000000000))))
def nS (S I O P full q k y : Int) (ok : Bool) : Int := if goodB S I O P full q k ok = true then S + q - outV k (S + q) y - splV k (S + q) y full else 0
def nI (S I O P full q k y : Int) (ok : Bool) : Int := if goodB S I O P full q k ok = true then I + q else 0
def nO (S I O P full q k y : Int) (ok : Bool) : Int := if goodB S I O P full q k ok = true then O + outV k (S + q) y else 0
def nP (S I O P full q k y : Int) (ok : Bool) : Int := if goodB S I O P full q k ok = true then P + splV k (S + q) y full else 0
theorem no_all {S I O P full q k y : Int} {ok : Bool} (h : goodB S I O P full q k ok = false) : nS S I O P full q k y ok = 0 ∧ nI S I O P full q k y ok = 0 ∧ nO S I O P full q k y ok = 0 ∧ nP S I O P full q k y ok = 0 := by
  have : ¬ goodB S I O P full q k ok = true := by rw [h]; decide
  exact ⟨if_neg this, if_neg this, if_neg this, if_neg this⟩
theorem yes_all {S I O P full q k y : Int} {ok : Bool} (h : goodB S I O P full q k ok = true) : nS S I O P full q k y ok = S + q - outV k (S + q) y - splV k (S + q) y full ∧ nI S I O P full q k y ok = I + q ∧ nO S I O P full q k y ok = O + outV k (S + q) y ∧ nP S I O P full q k y ok = P + splV k (S + q) y full :=
  ⟨if_pos h, if_pos h, if_pos h, if_pos h⟩
theorem av_small {n : Nat} {V : Nat → Int} {x y : Int} {ok : Bool} (h : AV n V x y ok) : -5000000000000 ≤ y ∧ y ≤ 5000000000000 := by
  rcases h with ⟨_, rfl, _⟩ | ⟨hc, ⟨_, rfl, _⟩ | ⟨j, hj, h1, h2, rfl, _⟩⟩
  · omega
  · omega
  · obtain ⟨c1, c2, c3⟩ := curve_ok hc
    obtain ⟨s1, s2, s3, s4⟩ := seg_small c3 hj h1 h2
    obtain ⟨d1, d2⟩ := div_small s1 s2 s3
    obtain ⟨⟨a1, a2⟩, ⟨a3, a4⟩⟩ := ok_in c3 (i := j) (by omega)
    unfold segV
    omega
theorem watB_q {q k : Int} (h : watB q k = true) : inB 0 1000000000 q = true := by unfold watB at h; rw [Bool.and_eq_true] at h; exact h.1
theorem watB_k {q k : Int} (h : watB q k = true) : inB 0 1000000000 k = true := by unfold watB at h; rw [Bool.and_eq_true] at h; exact h.2
theorem bas_bounds {S I O P : Int} (h : basB S I O P = true) : 0 ≤ S ∧ S ≤ 1000000000000 ∧ 0 ≤ I ∧ I ≤ 1000000000000 ∧ 0 ≤ O ∧ O ≤ 1000000000000 ∧ 0 ≤ P ∧ P ≤ 1000000000000 := by
  unfold basB at h
  simp only [Bool.and_eq_true] at h
  obtain ⟨h0, h1, h2, h3, _⟩ := h
  exact ⟨(inB_yes h0).1, (inB_yes h0).2, (inB_yes h1).1, (inB_yes h1).2, (inB_yes h2).1, (inB_yes h2).2, (inB_yes h3).1, (inB_yes h3).2⟩
end Go.Proofs.Ytiamhpopgnblcaa
