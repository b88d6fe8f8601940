/-
What is proved: what the specification finds of jobs.
-/
import Derived.Test.YtffjhbgnhnnfiaaDoorJo
import Derived.Deep.RegionHeld3
import Derived.Deep.DeepCutAuto
import Derived.BigQuiet
namespace Go.Proofs.YtffjhbgnhnnfiaaDoor
set_option maxRecDepth 40000
open Go.ChangeShapes Go.WideShapes Go.ChangeAt Go.RowKit
set_option linter.unusedVariables false
set_option linter.unusedSimpArgs false

theorem ball_succJ {p : Nat → Prop} {k : Nat} (h : ∀ j, j < k → p j) (hk : p k) : ∀ j, j < k + 1 → p j := fun j hj => by
  by_cases e : j = k
  · exact e ▸ hk
  · exact h j (by omega)
set_option maxRecDepth 20000 in
set_option maxHeartbeats 4000000 in
theorem l25Jobs_any (s : Option Addr) (n c : Nat) (X : Nat → Int) (K : Nat → Nat) (V : Nat → Nat → Int) (w : World) (hn : (n : Int) ≤ 1048576) (HK : Hid (∀ i, i < n → (K i : Int) ≤ 1048576)) (HR : Hid (RowJbs w s n X K V)) :
    Calls Tryd.prog 29 #[.slice s n c] w fun e w' => e = .returned (.bool (jobsB n X K V)) ∧ Below w.heap.size w w' := by
  by_cases n1 : 40 < n
  · have b1 : (40 : Int) < (n : Int) := by omega
    have HO : Hid (jobsB n X K V = false) := jobs_long n1
    go_enter Tryd.func29, Tryd.ntmps29
    go_wp2
    go_ret
    exact ⟨ret_bool HO.out.symm, (by repeat (first | with_reducible exact Below.refl _ _ | with_reducible refine Below.setCell ?_ (by first | omega | (simp; done) | (simp; omega)) _ | with_reducible refine bDrewN ?_ _ | with_reducible refine Below.drew ?_ | with_reducible refine Below.alloc ?_ (by first | omega | (simp; done) | (simp; omega)) _))⟩
  have b1 : decide ((40 : Int) < (n : Int)) = false := decide_eq_false (by omega)
  have HO : Hid (jobsB n X K V = decide (∀ j, j < n → jobB j X K V = true)) := jobs_is (by omega)
  have n6 : (n : Int) ≤ 40 := by omega
  go_enter Tryd.func29, Tryd.ntmps29
  go_wp2_with fail
  go_loopw [3] (fun i wr => ∃ k : Nat, k ≤ n ∧ i = .int .i64 k ∧ Hid (∀ j, j < k → jobB j X K V = true) ∧ Below w.heap.size w wr) (fun i _ => n - (intOf i).toNat)
  case atStart => exact ⟨0, Nat.zero_le _, rfl, fun j hj => by omega, Below.refl _ _⟩
  case round =>
    obtain ⟨k, hk, rfl, HP, hB⟩ := hrel
    by_cases h1 : k < n
    · obtain ⟨g, o, a, d, rfl, zg, c0, c1, hr⟩ := HR.out k h1
      have k1 : (k : Int) < (n : Int) := by omega
      have hK := HK.out k h1
      replace c0 := (hB.cell (p := ⟨g, o + k * 2, none⟩) zg).trans c0
      replace c1 := (hB.cell (p := ⟨g, o + k * 2 + 1, none⟩) zg).trans c1
      have HJ : Hid (∀ x m, X k = x → K k = m → jobB k X K V = (inB 1 1000 x && (risB (V k) m && allInB 0 ((k : Int) - 1) (V k) m))) := fun x m hx hm => by unfold jobB; rw [hx, hm]
      obtain ⟨x, hx⟩ : ∃ x, X k = x := ⟨_, rfl⟩
      obtain ⟨m, hm⟩ : ∃ m, K k = m := ⟨_, rfl⟩
      have HJ2 : Hid (jobB k X K V = (inB 1 1000 x && (risB (V k) m && allInB 0 ((k : Int) - 1) (V k) m))) := HJ.out x m hx hm
      rw [hx] at c0
      rw [hm] at c1 hr hK
      have HI : Hid (RowI w a m (V k)) := hr
      clear hx hm hr HJ
      go_wp2_with fail
      refine (l1In_is _ _ _ _).mono ?_
      rintro e wr ⟨rfl, rfl⟩
      cases e0 : inB 1 1000 x
      · have HN : Hid (jobsB n X K V = false) := jobs_bad h1 (by rw [HJ2.out, e0]; rfl)
        go_wp2
        go_ret
        exact ⟨ret_bool HN.out.symm, (by repeat (first | with_reducible exact Below.refl _ _ | with_reducible exact hB | with_reducible refine Below.setCell ?_ (by first | omega | (simp; done) | (simp; omega)) _ | with_reducible refine bDrewN ?_ _ | with_reducible refine Below.drew ?_ | with_reducible refine Below.alloc ?_ (by first | omega | (simp; done) | (simp; omega)) _))⟩
      have HJ3 : Hid (jobB k X K V = (risB (V k) m && allInB 0 ((k : Int) - 1) (V k) m)) := by show _ = _; rw [HJ2.out, e0]; rfl
      clear HJ2 e0
      go_wp2_with fail
      refine (l22Rises_any a m d (V k) _ _ _ hK (HI.out.below hB)).mono ?_
      rintro e w2 ⟨rfl, h2⟩
      have B1 : Below w.heap.size w w2 := hB.trans (h2.mono hB.size)
      clear h2
      cases e1 : (risB (V k) m && allInB 0 ((k : Int) - 1) (V k) m)
      · have HN : Hid (jobsB n X K V = false) := jobs_bad h1 (HJ3.out.trans e1)
        clear HJ3 e1
        go_wp2
        go_ret
        exact ⟨ret_bool HN.out.symm, (by repeat (first | with_reducible exact Below.refl _ _ | with_reducible exact B1 | with_reducible refine Below.setCell ?_ (by first | omega | (simp; done) | (simp; omega)) _ | with_reducible refine bDrewN ?_ _ | with_reducible refine Below.drew ?_ | with_reducible refine Below.alloc ?_ (by first | omega | (simp; done) | (simp; omega)) _))⟩
      have HP2 : Hid (∀ j, j < k + 1 → jobB j X K V = true) := ball_succJ HP.out (HJ3.out.trans e1)
      clear HJ3 e1
      go_wp2
      go_roundw
      case rel => exact ⟨k + 1, by omega, by go_num, HP2, (by repeat (first | with_reducible exact Below.refl _ _ | with_reducible exact B1 | with_reducible refine Below.setCell ?_ (by first | omega | (simp; done) | (simp; omega)) _ | with_reducible refine bDrewN ?_ _ | with_reducible refine Below.drew ?_ | with_reducible refine Below.alloc ?_ (by first | omega | (simp; done) | (simp; omega)) _))⟩
      case measure => first | (simp [intOf]; done) | (simp [intOf]; omega)
    · obtain rfl : k = n := by omega
      have HN : Hid (jobsB k X K V = true) := HO.out.trans (decide_eq_true HP.out)
      go_wp2
      go_ret
      exact ⟨ret_bool HN.out.symm, hB⟩
end Go.Proofs.YtffjhbgnhnnfiaaDoor
