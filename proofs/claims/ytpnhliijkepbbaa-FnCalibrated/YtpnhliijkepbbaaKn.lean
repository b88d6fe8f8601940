/-
What is proved: whether all floats of a list are known, as the program tells it.
-/
import Derived.Test.YtpnhliijkepbbaaF64
import Derived.Test.YtpnhliijkepbbaaKnown
namespace Go.Proofs.Ytpnhliijkepbbaa
set_option maxRecDepth 40000
open Go.RowKit
set_option linter.unusedVariables false
set_option linter.unusedSimpArgs false

def knO : Option Nat → Bool
  | some v => knownB v
  | none => false
theorem known_fl {x : Nat} {o : Option Nat} (h : Fl x o) : knownB x = knO o := by
  rcases h.2 with ⟨p, rfl⟩ | ⟨p, rfl⟩
  · rfl
  · exact decide_eq_false (by omega)
def kAll (V : Nat → Option Nat) : Nat → Bool
  | 0 => true
  | k + 1 => kAll V k && knO (V k)
theorem kAll_no {V : Nat → Option Nat} {k : Nat} (h : knO (V k) = false) : ∀ {n : Nat}, k < n → kAll V n = false
  | n + 1, hn => by
    unfold kAll
    by_cases e : k = n
    · subst e; rw [h, Bool.and_false]
    · rw [kAll_no h (by omega), Bool.false_and]
theorem kAll_on {V : Nat → Option Nat} {k : Nat} (h : kAll V k = true) (g : knO (V k) = true) : kAll V (k + 1) = true := by unfold kAll; rw [h, g]; rfl
set_option maxRecDepth 20000 in
set_option maxHeartbeats 1000000 in
theorem allKnown_any (s : Option Addr) (n c : Nat) (V : Nat → Option Nat) (w : World) (hn : (n : Int) ≤ 1048576) (HR : Hid (RowF w s n V)) :
    Calls Try.prog 23 #[.slice s n c] w fun e w' => e = .returned (.bool (kAll V n)) ∧ Below w.heap.size w w' := by
  go_enter Try.func23, Try.ntmps23
  go_wp2_with fail
  go_loopw [7] (fun i wr => ∃ k : Nat, k ≤ n ∧ i = .int .i64 k ∧ Below w.heap.size w wr ∧ Hid (kAll V k = true)) (fun i _ => n - (intOf i).toNat)
  case atStart => exact ⟨0, Nat.zero_le _, rfl, Below.refl _ _, rfl⟩
  case round =>
    obtain ⟨k, hk, rfl, hB, hP⟩ := hrel
    by_cases h1 : k < n
    · obtain ⟨g, o, x, rfl, hg, c0, hx⟩ := HR.out k h1
      have d0 : wr.cell? ⟨g, o + k, none⟩ = some (.float .f64 x) := (hB.cell (p := ⟨g, o + k, none⟩) hg).trans c0
      have k1 : (k : Int) < (n : Int) := by omega
      have HX : Hid (knownB x = knO (V k)) := known_fl hx
      have lx := hx.1
      clear c0 hx
      go_wp2_with fail
      refine (implKnown_any x lx _).mono ?_
      rintro e w1 ⟨rfl, n1, rfl⟩
      cases hb : knownB x with
      | false =>
        have HN : Hid (kAll V n = false) := kAll_no (HX.out.symm.trans hb) h1
        go_wp2
        go_ret
        exact ⟨by rw [HN.out]; rfl, (by repeat (first | with_reducible exact Below.refl _ _ | with_reducible exact hB | with_reducible refine Below.setCell ?_ (by first | omega | (simp; done) | (simp; omega)) _ | with_reducible refine bDrewN ?_ _ | with_reducible refine Below.drew ?_ | with_reducible refine Below.alloc ?_ (by first | omega | (simp; done) | (simp; omega)) _))⟩
      | true =>
        have HO : Hid (kAll V (k + 1) = true) := kAll_on hP.out (HX.out.symm.trans hb)
        go_wp2
        go_roundw
        case rel => exact ⟨k + 1, by omega, by go_num, (by repeat (first | with_reducible exact Below.refl _ _ | with_reducible exact hB | with_reducible refine Below.setCell ?_ (by first | omega | (simp; done) | (simp; omega)) _ | with_reducible refine bDrewN ?_ _ | with_reducible refine Below.drew ?_ | with_reducible refine Below.alloc ?_ (by first | omega | (simp; done) | (simp; omega)) _)), HO⟩
        case measure => simp [intOf]; omega
    · obtain rfl : k = n := by omega
      go_wp2
      go_ret
      exact ⟨by rw [hP.out]; rfl, hB⟩
end Go.Proofs.Ytpnhliijkepbbaa
