/-
What is proved: what units give together, as the specification counts it.
-/
import Derived.Test.YtgekkblfnfclmaaUn
import Derived.Deep.RegionHeld3
import Derived.Deep.DeepCutAuto
namespace Go.Proofs.Ytgekkblfnfclmaa
set_option maxRecDepth 40000
open Go.RowKit
set_option linter.unusedVariables false
set_option linter.unusedSimpArgs false

set_option maxHeartbeats 1000000 in
theorem gives_l10All (V : Nat → Int) (j : Nat) (f : Int) (w : World) (h : unitB V j = true) (f0 : 0 ≤ f) (f1 : f ≤ 1000000) : Calls Try.prog 29 #[.agg #[.int .i64 (V (j * 2)), .int .i64 (V (j * 2 + 1))], .int .i64 f] w fun e w' => e = .returned (.int .i64 (gvV V f j)) ∧ Below w.heap.size w w' := by
  obtain ⟨a, b, c, d⟩ := unit_yes h
  obtain ⟨m1, m2⟩ := mul_rng c d f0 f1
  unfold gvV
  obtain ⟨x, hx⟩ : ∃ x, V (j * 2) = x := ⟨_, rfl⟩
  obtain ⟨y, hy⟩ : ∃ y, V (j * 2 + 1) = y := ⟨_, rfl⟩
  rw [hx] at a b ⊢
  rw [hy] at c d m1 m2 ⊢
  obtain ⟨p, hp⟩ : ∃ p, y * f = p := ⟨_, rfl⟩
  rw [hp] at m1 m2 ⊢
  obtain ⟨q, hq⟩ : ∃ q, (if p < x then p else x) = q := ⟨_, rfl⟩
  have e : min x p = q := by rw [← hq]; split <;> omega
  rw [e]
  clear e hx hy h
  go_enter Try.func29, Try.ntmps29
  go_wp2
  go_ret
  exact ⟨rfl, (by repeat (first | with_reducible exact Below.refl _ _ | with_reducible refine Below.setCell ?_ (by first | omega | (simp; done) | (simp; omega)) _ | with_reducible refine bDrewN ?_ _ | with_reducible refine Below.drew ?_ | with_reducible refine Below.alloc ?_ (by first | omega | (simp; done) | (simp; omega)) _))⟩
set_option maxRecDepth 20000 in
set_option maxHeartbeats 2000000 in
theorem l10All_any (s : Option Addr) (n c : Nat) (V : Nat → Int) (f : Int) (w : World) (hn : (n : Int) ≤ 50) (f0 : 0 ≤ f) (f1 : f ≤ 1000000) (HU : Hid (∀ j, j < n → unitB V j = true)) (HR : Hid (RowI w s (n * 2) V)) :
    Calls Try.prog 21 #[.slice s n c, .int .i64 f] w fun e w' => e = .returned (.int .i64 (allV V f n)) ∧ Below w.heap.size w w' := by
  go_enter Try.func21, Try.ntmps21
  go_wp2_with fail
  go_loopw [5, 6] (fun q i wr => ∃ k : Nat, k ≤ n ∧ i = .int .i64 k ∧ q = .int .i64 (allV V f k) ∧ Below w.heap.size w wr) (fun _ i _ => n - (intOf i).toNat)
  case atStart => exact ⟨0, Nat.zero_le _, rfl, rfl, Below.refl _ _⟩
  case round =>
    obtain ⟨k, hk, rfl, rfl, hB⟩ := hrel
    have ab := all_bd (V := V) f0 f1 (n := k) fun j hj => HU.out j (by omega)
    obtain ⟨ab1, ab2⟩ := ab
    by_cases h1 : k < n
    · obtain ⟨g, o, rfl, hg, c0⟩ := HR.out (k * 2) (by omega)
      obtain ⟨g', o', e', hg', c1⟩ := HR.out (k * 2 + 1) (by omega)
      cases e'
      have d0 : wr.cell? ⟨g, o + k * 2, none⟩ = some (.int .i64 (V (k * 2))) := (hB.cell (p := ⟨g, o + k * 2, none⟩) hg).trans c0
      have d1 : wr.cell? ⟨g, o + k * 2 + 1, none⟩ = some (.int .i64 (V (k * 2 + 1))) := (hB.cell (p := ⟨g, o + (k * 2 + 1), none⟩) hg).trans c1
      have k1 : (k : Int) < (n : Int) := by omega
      have zg : g < wr.heap.size := Nat.lt_of_lt_of_le hg hB.size
      have HB : Hid (Below w.heap.size w wr) := hB
      have HN : Hid (allV V f k + gvV V f k = allV V f (k + 1)) := rfl
      have ub := gv_bd (HU.out k h1) f0 f1
      have uc := unit_yes (HU.out k h1)
      obtain ⟨gv, hgv⟩ : ∃ gv, gvV V f k = gv := ⟨_, rfl⟩
      have GV : Hid (∀ w, Calls Try.prog 29 #[.agg #[.int .i64 (V (k * 2)), .int .i64 (V (k * 2 + 1))], .int .i64 f] w fun e w' => e = .returned (.int .i64 gv) ∧ Below w.heap.size w w') := fun w => hgv ▸ gives_l10All V k f w (HU.out k h1) f0 f1
      rw [hgv] at ub
      have HG : Hid (gvV V f k = gv) := hgv
      clear hB c0 c1 hg hg' hgv
      obtain ⟨a, ha⟩ : ∃ a, allV V f k = a := ⟨_, rfl⟩
      have HA : Hid (allV V f k = a) := ha
      rw [ha] at ab1 ab2 ⊢
      clear ha
      obtain ⟨ub1, ub2⟩ := ub
      obtain ⟨uc1, uc2, uc3, uc4⟩ := uc
      go_wp2_with fail
      refine (GV.out _).mono ?_
      rintro r w3 ⟨rfl, h3⟩
      have B3 : Below w.heap.size w w3 := HB.out.trans (h3.mono HB.out.size)
      go_wp2
      go_round
      case rel => exact ⟨k + 1, by omega, by go_num, by rw [← HN.out, HA.out, HG.out], B3⟩
      case measure => simp [intOf]; omega
    · obtain rfl : k = n := by omega
      go_wp2
      go_ret
      exact ⟨rfl, (by repeat (first | with_reducible exact Below.refl _ _ | with_reducible exact hB | with_reducible refine Below.setCell ?_ (by first | omega | (simp; done) | (simp; omega)) _ | with_reducible refine bDrewN ?_ _ | with_reducible refine Below.drew ?_ | with_reducible refine Below.alloc ?_ (by first | omega | (simp; done) | (simp; omega)) _))⟩
end Go.Proofs.Ytgekkblfnfclmaa
