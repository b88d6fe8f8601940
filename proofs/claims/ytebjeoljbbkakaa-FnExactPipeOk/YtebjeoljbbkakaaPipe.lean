/-
What is proved: when a pipe is right, as both packages say it; what the law's own helpers do with a pipe.
-/
import Derived.Test.YtebjeoljbbkakaaPipeR
import Derived.Test.YtebjeoljbbkakaaKnown
import Derived.Test.YtebjeoljbbkakaaWithin
namespace Go.Proofs.Ytebjeoljbbkakaa
set_option maxRecDepth 40000
open Go.RowKit
set_option linter.unusedVariables false
set_option linter.unusedSimpArgs false

def knO : Option Nat → Bool
  | some v => knownB v
  | none => false
theorem known_fl {x : Nat} {o : Option Nat} (h : Fl x o) : knownB x = knO o := by
  rcases h.2 with ⟨p, rfl⟩ | ⟨p, rfl⟩
  · rfl
  · exact decide_eq_false (by omega)
def kAll (V : Nat → Option Nat) : Nat → Bool
  | 0 => true
  | k + 1 => kAll V k && knO (V k)
theorem kAll_no {V : Nat → Option Nat} {k : Nat} (h : knO (V k) = false) : ∀ {n : Nat}, k < n → kAll V n = false
  | n + 1, hn => by
    unfold kAll
    by_cases e : k = n
    · subst e; rw [h, Bool.and_false]
    · rw [kAll_no h (by omega), Bool.false_and]
theorem kAll_on {V : Nat → Option Nat} {k : Nat} (h : kAll V k = true) (g : knO (V k) = true) : kAll V (k + 1) = true := by unfold kAll; rw [h, g]; rfl
/-- A pipe is right. -/
def pipeB (n n2 : Nat) (V V2 : Nat → Option Nat) : Bool := decide (2 ≤ n ∧ n ≤ 100) && (decide (n2 = n) && (kAll V n && kAll V2 n2))

set_option maxRecDepth 20000 in
set_option maxHeartbeats 1000000 in
theorem allKnown_any (s : Option Addr) (n c : Nat) (V : Nat → Option Nat) (w : World) (hn : (n : Int) ≤ 1048576) (HR : Hid (RowF w s n V)) :
    Calls Try.prog 28 #[.slice s n c] w fun e w' => e = .returned (.bool (kAll V n)) ∧ Below w.heap.size w w' := by
  go_enter Try.func28, Try.ntmps28
  go_wp2_with fail
  go_loopw [7] (fun i wr => ∃ k : Nat, k ≤ n ∧ i = .int .i64 k ∧ Below w.heap.size w wr ∧ Hid (kAll V k = true)) (fun i _ => n - (intOf i).toNat)
  case atStart => exact ⟨0, Nat.zero_le _, rfl, Below.refl _ _, rfl⟩
  case round =>
    obtain ⟨k, hk, rfl, hB, hP⟩ := hrel
    by_cases h1 : k < n
    · obtain ⟨g, o, x, rfl, hg, c0, hx⟩ := HR.out k h1
      have d0 : wr.cell? ⟨g, o + k, none⟩ = some (.float .f64 x) := (hB.cell (p := ⟨g, o + k, none⟩) hg).trans c0
      have k1 : (k : Int) < (n : Int) := by omega
      have HX : Hid (knownB x = knO (V k)) := known_fl hx
      have lx := hx.1
      clear c0 hx
      go_wp2_with fail
      refine (implKnown_any x lx _).mono ?_
      rintro e w1 ⟨rfl, n1, rfl⟩
      cases hb : knownB x with
      | false =>
        have HN : Hid (kAll V n = false) := kAll_no (HX.out.symm.trans hb) h1
        go_wp2
        go_ret
        exact ⟨by rw [HN.out]; rfl, (by repeat (first | with_reducible exact Below.refl _ _ | with_reducible exact hB | with_reducible refine Below.setCell ?_ (by first | omega | (simp; done) | (simp; omega)) _ | with_reducible refine bDrewN ?_ _ | with_reducible refine Below.drew ?_ | with_reducible refine Below.alloc ?_ (by first | omega | (simp; done) | (simp; omega)) _))⟩
      | true =>
        have HO : Hid (kAll V (k + 1) = true) := kAll_on hP.out (HX.out.symm.trans hb)
        go_wp2
        go_roundw
        case rel => exact ⟨k + 1, by omega, by go_num, (by repeat (first | with_reducible exact Below.refl _ _ | with_reducible exact hB | with_reducible refine Below.setCell ?_ (by first | omega | (simp; done) | (simp; omega)) _ | with_reducible refine bDrewN ?_ _ | with_reducible refine Below.drew ?_ | with_reducible refine Below.alloc ?_ (by first | omega | (simp; done) | (simp; omega)) _)), HO⟩
        case measure => simp [intOf]; omega
    · obtain rfl : k = n := by omega
      go_wp2
      go_ret
      exact ⟨by rw [hP.out]; rfl, hB⟩

set_option maxHeartbeats 1000000 in
theorem implPipeOk_any (s : Option Addr) (n c : Nat) (V : Nat → Option Nat) (s2 : Option Addr) (n2 c2 : Nat) (V2 : Nat → Option Nat) (w : World) (hn : (n : Int) ≤ 1048576) (hn2 : (n2 : Int) ≤ 1048576) (HR : Hid (RowF w s n V)) (HR2 : Hid (RowF w s2 n2 V2)) :
    Calls Try.prog 9 #[.agg #[.slice s n c, .slice s2 n2 c2]] w fun e w' => e = .returned (.bool (pipeB n n2 V V2)) ∧ Below w.heap.size w w' := by
  have A1 : Hid (∀ ob, RowF (w.alloc ob) s n V) := fun ob => HR.out.below (below0 w ob)
  by_cases h1 : 2 ≤ n ∧ n ≤ 100
  · have e1 : decide (2 ≤ n ∧ n ≤ 100) = true := decide_eq_true h1
    by_cases h2 : n2 = n
    · subst h2
      cases h3 : kAll V n2 with
      | false =>
        have e0 : pipeB n2 n2 V V2 = false := by unfold pipeB; rw [e1, h3]; simp
        rw [e0]
        go_enter Try.func9, Try.ntmps9
        go_wp2_with fail
        refine (within_yes _ _ _ _ (by omega) (by omega)).mono ?_
        rintro e w1 ⟨rfl, rfl⟩
        go_wp2_with fail
        refine (allKnown_any s n2 c V _ hn (A1.out _)).mono ?_
        rintro e w1 ⟨rfl, hb⟩
        have B1 : Below w.heap.size w w1 := Below.trans (by repeat (first | with_reducible exact Below.refl _ _ | with_reducible refine Below.setCell ?_ (by first | omega | (simp; done) | (simp; omega)) _ | with_reducible refine bDrewN ?_ _ | with_reducible refine Below.drew ?_ | with_reducible refine Below.alloc ?_ (by first | omega | (simp; done) | (simp; omega)) _)) (hb.mono (by first | omega | (simp; done) | (simp; omega)))
        rw [h3]
        go_wp2
        go_ret
        exact ⟨rfl, B1⟩
      | true =>
        have e0 : pipeB n2 n2 V V2 = kAll V2 n2 := by unfold pipeB; rw [e1, h3]; simp
        rw [e0]
        go_enter Try.func9, Try.ntmps9
        go_wp2_with fail
        refine (within_yes _ _ _ _ (by omega) (by omega)).mono ?_
        rintro e w1 ⟨rfl, rfl⟩
        go_wp2_with fail
        refine (allKnown_any s n2 c V _ hn (A1.out _)).mono ?_
        rintro e w1 ⟨rfl, hb⟩
        have B1 : Below w.heap.size w w1 := Below.trans (by repeat (first | with_reducible exact Below.refl _ _ | with_reducible refine Below.setCell ?_ (by first | omega | (simp; done) | (simp; omega)) _ | with_reducible refine bDrewN ?_ _ | with_reducible refine Below.drew ?_ | with_reducible refine Below.alloc ?_ (by first | omega | (simp; done) | (simp; omega)) _)) (hb.mono (by first | omega | (simp; done) | (simp; omega)))
        have q1 : w1.cell? ⟨w.heap.size, 1, none⟩ = some (.slice s2 n2 c2) := by rw [hb.cell (by first | omega | (simp; done) | (simp; omega))]; simp
        have R1 : Hid (RowF w1 s2 n2 V2) := HR2.out.below B1
        have s1 := B1.size
        clear hb
        rw [h3]
        go_wp2_with fail
        refine (allKnown_any s2 n2 c2 V2 _ hn R1.out).mono ?_
        rintro e w2 ⟨rfl, hb⟩
        have B2 : Below w.heap.size w w2 := B1.trans (hb.mono s1)
        go_wp2
        go_ret
        exact ⟨rfl, B2⟩
    · have e0 : pipeB n n2 V V2 = false := by unfold pipeB; rw [decide_eq_false h2]; simp
      rw [e0]
      have h2' : ((n2 : Int) == (n : Int)) = false := by simp; omega
      go_enter Try.func9, Try.ntmps9
      go_wp2_with fail
      refine (within_yes _ _ _ _ (by omega) (by omega)).mono ?_
      rintro e w1 ⟨rfl, rfl⟩
      go_wp2
      go_ret
      exact ⟨rfl, (by repeat (first | with_reducible exact Below.refl _ _ | with_reducible refine Below.setCell ?_ (by first | omega | (simp; done) | (simp; omega)) _ | with_reducible refine bDrewN ?_ _ | with_reducible refine Below.drew ?_ | with_reducible refine Below.alloc ?_ (by first | omega | (simp; done) | (simp; omega)) _))⟩
  · have e0 : pipeB n n2 V V2 = false := by unfold pipeB; rw [decide_eq_false h1]; simp
    rw [e0]
    go_enter Try.func9, Try.ntmps9
    go_wp2_with fail
    refine (within_no _ _ _ _ (by omega)).mono ?_
    rintro e w1 ⟨rfl, rfl⟩
    go_wp2
    go_ret
    exact ⟨rfl, (by repeat (first | with_reducible exact Below.refl _ _ | with_reducible refine Below.setCell ?_ (by first | omega | (simp; done) | (simp; omega)) _ | with_reducible refine bDrewN ?_ _ | with_reducible refine Below.drew ?_ | with_reducible refine Below.alloc ?_ (by first | omega | (simp; done) | (simp; omega)) _))⟩
end Go.Proofs.Ytebjeoljbbkakaa
