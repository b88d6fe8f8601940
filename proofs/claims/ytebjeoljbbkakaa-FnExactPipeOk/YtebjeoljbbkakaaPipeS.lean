/-
What is proved: when a pipe is right, as the specification says it.
-/
import Derived.Test.YtebjeoljbbkakaaPipe
import Derived.Deep.DeepCutAuto
namespace Go.Proofs.Ytebjeoljbbkakaa
set_option maxRecDepth 40000
open Go.RowKit
set_option linter.unusedVariables false
set_option linter.unusedSimpArgs false

set_option maxHeartbeats 1000000 in
theorem specPipe_no (s : Option Addr) (n c : Nat) (V : Nat → Option Nat) (s2 : Option Addr) (n2 c2 : Nat) (V2 : Nat → Option Nat) (w : World) (h : (n : Int) < 2 ∨ (100 : Int) < n ∨ (n2 : Int) ≠ n) :
    Calls Try.prog 7 #[.agg #[.slice s n c, .slice s2 n2 c2]] w fun e w' => e = .returned (.bool false) ∧ Below w.heap.size w w' := by
  by_cases h1 : (n : Int) < 2
  · go_enter Try.func7, Try.ntmps7
    go_wp2
    go_ret
    exact ⟨rfl, (by repeat (first | with_reducible exact Below.refl _ _ | with_reducible refine Below.setCell ?_ (by first | omega | (simp; done) | (simp; omega)) _ | with_reducible refine bDrewN ?_ _ | with_reducible refine Below.drew ?_ | with_reducible refine Below.alloc ?_ (by first | omega | (simp; done) | (simp; omega)) _))⟩
  · by_cases h2 : (100 : Int) < n
    · have b1 : decide ((n : Int) < 2) = false := by simp; omega
      go_enter Try.func7, Try.ntmps7
      go_wp2
      go_ret
      exact ⟨rfl, (by repeat (first | with_reducible exact Below.refl _ _ | with_reducible refine Below.setCell ?_ (by first | omega | (simp; done) | (simp; omega)) _ | with_reducible refine bDrewN ?_ _ | with_reducible refine Below.drew ?_ | with_reducible refine Below.alloc ?_ (by first | omega | (simp; done) | (simp; omega)) _))⟩
    · have b1 : decide ((n : Int) < 2) = false := by simp; omega
      have b2 : decide ((100 : Int) < n) = false := by simp; omega
      have b3 : ((n2 : Int) != (n : Int)) = true := by simp; omega
      go_enter Try.func7, Try.ntmps7
      go_wp2
      go_ret
      exact ⟨rfl, (by repeat (first | with_reducible exact Below.refl _ _ | with_reducible refine Below.setCell ?_ (by first | omega | (simp; done) | (simp; omega)) _ | with_reducible refine bDrewN ?_ _ | with_reducible refine Below.drew ?_ | with_reducible refine Below.alloc ?_ (by first | omega | (simp; done) | (simp; omega)) _))⟩

set_option maxRecDepth 20000 in
set_option maxHeartbeats 2000000 in
theorem specPipe_go (s : Option Addr) (n c : Nat) (V : Nat → Option Nat) (s2 : Option Addr) (c2 : Nat) (V2 : Nat → Option Nat) (w : World) (h1 : (2 : Int) ≤ n) (h2 : (n : Int) ≤ 100) (HR : Hid (RowF w s n V)) (HR2 : Hid (RowF w s2 n V2)) :
    Calls Try.prog 7 #[.agg #[.slice s n c, .slice s2 n c2]] w fun e w' => e = .returned (.bool (kAll V n && kAll V2 n)) ∧ Below w.heap.size w w' := by
  go_enter Try.func7, Try.ntmps7
  go_wp2_with fail
  go_loopw [3] (fun i wr => ∃ k : Nat, k ≤ n ∧ i = .int .i64 k ∧ Below (w.alloc (.cells #[.slice s n c, .slice s2 n c2] 27)).heap.size (w.alloc (.cells #[.slice s n c, .slice s2 n c2] 27)) wr ∧ Hid (kAll V k = true ∧ kAll V2 k = true)) (fun i _ => n - (intOf i).toNat)
  case atStart => exact ⟨0, Nat.zero_le _, rfl, Below.refl _ _, rfl, rfl⟩
  case round =>
    obtain ⟨k, hk, rfl, hB0, hP⟩ := hrel
    have hB : Below w.heap.size w wr := Below.trans (by repeat (first | with_reducible exact Below.refl _ _ | with_reducible refine Below.setCell ?_ (by first | omega | (simp; done) | (simp; omega)) _ | with_reducible refine bDrewN ?_ _ | with_reducible refine Below.drew ?_ | with_reducible refine Below.alloc ?_ (by first | omega | (simp; done) | (simp; omega)) _)) (hB0.mono (by first | omega | (simp; done) | (simp; omega)))
    have u0 : wr.cell? ⟨w.heap.size, 0, none⟩ = some (.slice s n c) := by rw [hB0.cell (by first | omega | (simp; done) | (simp; omega))]; simp
    have u1 : wr.cell? ⟨w.heap.size, 1, none⟩ = some (.slice s2 n c2) := by rw [hB0.cell (by first | omega | (simp; done) | (simp; omega))]; simp
    have HB0 : Hid _ := hB0
    clear hB0
    by_cases h1 : k < n
    · obtain ⟨g, o, x, rfl, hg, c0, hx⟩ := HR.out k h1
      obtain ⟨g', o', y, rfl, hg', c1, hy⟩ := HR2.out k h1
      have d0 : wr.cell? ⟨g, o + k, none⟩ = some (.float .f64 x) := (hB.cell (p := ⟨g, o + k, none⟩) hg).trans c0
      have d1 : wr.cell? ⟨g', o' + k, none⟩ = some (.float .f64 y) := (hB.cell (p := ⟨g', o' + k, none⟩) hg').trans c1
      have k1 : (k : Int) < (n : Int) := by omega
      have HX : Hid (knownB x = knO (V k) ∧ knownB y = knO (V2 k)) := ⟨known_fl hx, known_fl hy⟩
      clear c0 c1 hx hy
      go_wp2_with fail
      refine (specKnown_any x _).mono ?_
      rintro e w1 ⟨rfl, n1, rfl⟩
      cases hb : knownB x with
      | false =>
        have HN : Hid ((kAll V n && kAll V2 n) = false) := by show (kAll V n && kAll V2 n) = false; rw [kAll_no (HX.out.1.symm.trans hb) h1, Bool.false_and]
        go_wp2
        go_ret
        exact ⟨by rw [HN.out]; rfl, (by repeat (first | with_reducible exact Below.refl _ _ | with_reducible exact hB | with_reducible refine Below.setCell ?_ (by first | omega | (simp; done) | (simp; omega)) _ | with_reducible refine bDrewN ?_ _ | with_reducible refine Below.drew ?_ | with_reducible refine Below.alloc ?_ (by first | omega | (simp; done) | (simp; omega)) _))⟩
      | true =>
        go_wp2_with fail
        refine (specKnown_any y _).mono ?_
        rintro e w1 ⟨rfl, n2, rfl⟩
        cases hb2 : knownB y with
        | false =>
          have HN : Hid ((kAll V n && kAll V2 n) = false) := by show (kAll V n && kAll V2 n) = false; rw [kAll_no (HX.out.2.symm.trans hb2) h1, Bool.and_false]
          go_wp2
          go_ret
          exact ⟨by rw [HN.out]; rfl, (by repeat (first | with_reducible exact Below.refl _ _ | with_reducible exact hB | with_reducible refine Below.setCell ?_ (by first | omega | (simp; done) | (simp; omega)) _ | with_reducible refine bDrewN ?_ _ | with_reducible refine Below.drew ?_ | with_reducible refine Below.alloc ?_ (by first | omega | (simp; done) | (simp; omega)) _))⟩
        | true =>
          have HO : Hid (kAll V (k + 1) = true ∧ kAll V2 (k + 1) = true) := ⟨kAll_on hP.out.1 (HX.out.1.symm.trans hb), kAll_on hP.out.2 (HX.out.2.symm.trans hb2)⟩
          have HB1 := HB0.out
          go_wp2
          go_roundw
          case rel => exact ⟨k + 1, by omega, by go_num, (by repeat (first | with_reducible exact Below.refl _ _ | with_reducible exact HB1 | with_reducible refine Below.setCell ?_ (by first | omega | (simp; done) | (simp; omega)) _ | with_reducible refine bDrewN ?_ _ | with_reducible refine Below.drew ?_ | with_reducible refine Below.alloc ?_ (by first | omega | (simp; done) | (simp; omega)) _)), HO⟩
          case measure => simp [intOf]; omega
    · obtain rfl : k = n := by omega
      go_wp2
      go_ret
      exact ⟨by rw [hP.out.1, hP.out.2]; rfl, hB⟩
theorem specPipeOk_any (s : Option Addr) (n c : Nat) (V : Nat → Option Nat) (s2 : Option Addr) (n2 c2 : Nat) (V2 : Nat → Option Nat) (w : World) (HR : Hid (RowF w s n V)) (HR2 : Hid (RowF w s2 n2 V2)) :
    Calls Try.prog 7 #[.agg #[.slice s n c, .slice s2 n2 c2]] w fun e w' => e = .returned (.bool (pipeB n n2 V V2)) ∧ Below w.heap.size w w' := by
  by_cases h1 : 2 ≤ n ∧ n ≤ 100
  · by_cases h2 : n2 = n
    · subst h2
      have e0 : pipeB n2 n2 V V2 = (kAll V n2 && kAll V2 n2) := by unfold pipeB; rw [decide_eq_true h1]; simp
      rw [e0]
      exact specPipe_go s n2 c V s2 c2 V2 w (by omega) (by omega) HR HR2
    · have e0 : pipeB n n2 V V2 = false := by unfold pipeB; rw [decide_eq_false h2]; simp
      rw [e0]
      exact specPipe_no s n c V s2 n2 c2 V2 w (by omega)
  · have e0 : pipeB n n2 V V2 = false := by unfold pipeB; rw [decide_eq_false h1]; simp
    rw [e0]
    exact specPipe_no s n c V s2 n2 c2 V2 w (by omega)
end Go.Proofs.Ytebjeoljbbkakaa
