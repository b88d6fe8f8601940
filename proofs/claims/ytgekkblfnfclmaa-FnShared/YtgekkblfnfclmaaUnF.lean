/-
What is proved: a list of units and a load that are drawn from a code: any of them, in memory of their own.
-/
import Derived.Test.YtgekkblfnfclmaaUnE
import Derived.Test.YtgekkblfnfclmaaRdC
import Derived.Deep.RegionHeld3
import Derived.Deep.DeepCutAuto
namespace Go.Proofs.Ytgekkblfnfclmaa
set_option maxRecDepth 40000
open Go.RowKit
set_option linter.unusedVariables false
set_option linter.unusedSimpArgs false

set_option maxRecDepth 20000 in
set_option maxHeartbeats 8000000 in
theorem drawFall_any {s : Option Addr} {n c : Nat} {w : World} (h : Hid (Code8 w s n)) :
    Calls Try.prog 31 #[.slice s n c] w fun e w' => ∃ m t ct V x, e = .returned (.tuple #[.slice t m ct, .int .i64 x]) ∧ m ≤ 1048576 ∧ RowI w' t (m * 2) V ∧ Below w.heap.size w w' := by
  go_enter Try.func31, Try.ntmps31
  go_wp2_with fail
  refine (open_any h).mono ?_
  rintro e w1 ⟨rfl, R1x, b1⟩
  have R1 : Hid (Rd w1 w.heap.size s n c 0) := R1x
  have z1 : w.heap.size < w1.heap.size := R1x.1
  have B1 : Hid (Below w.heap.size w w1) := b1
  clear R1x b1
  obtain ⟨r, hr⟩ : ∃ r, r = w.heap.size := ⟨_, rfl⟩
  rw [← hr] at R1 z1 ⊢
  have er : Hid (w.heap.size ≤ r ∧ r ≤ w.heap.size) := ⟨by omega, by omega⟩
  clear hr
  go_wp2_with fail
  refine (units_any R1.out).mono ?_
  rintro e w2 ⟨m, t, ct, V, p2, rfl, hm, ht, RWx, R2x, b2⟩
  have R2 : Hid (Rd w2 r s n c p2) := R2x
  have RW : Hid (RowI w2 t (m * 2) V) := RWx
  have B2 : Hid (Below w.heap.size w w2) := B1.out.trans (b2.below er.out.1 B1.out.size)
  have TH : Hid (∀ g o, t = some ⟨g, o, none⟩ → g ≠ r) := fun g o e => by have := ht g o e; have := er.out.2; omega
  clear R2x RWx b2 R1 B1 ht
  go_wp2_with fail
  go_loop [6, 7] (fun q i => ∃ (k : Nat) (y : Int), k ≤ m ∧ i = .int .i64 k ∧ q = .int .i64 y) (fun _ i => m - (intOf i).toNat)
  case atStart => exact ⟨0, 0, Nat.zero_le _, rfl, rfl⟩
  case round =>
    obtain ⟨k, y, hk, rfl, rfl⟩ := hrel
    by_cases h1 : k < m
    · obtain ⟨g, o, rfl, hg, c0⟩ := RW.out (k * 2) (by omega)
      have k1 : (k : Int) < (m : Int) := by omega
      have HN : Hid (k < m) := h1
      obtain ⟨q, hq⟩ : ∃ q, IntKind.i64.wrap (y + V (k * 2)) = q := ⟨_, rfl⟩
      clear h1
      go_wp2
      go_round
      case rel => exact ⟨k + 1, _, by have := HN.out; omega, by go_num, rfl⟩
      case measure => have := HN.out; simp [intOf]; omega
    · obtain rfl : k = m := by omega
      go_wp2_with fail
      refine (once_any 8 (by omega) (by omega) R2.out).mono ?_
      rintro e w3 ⟨b, p3, rfl, R3x, b3⟩
      have R3 : Hid (Rd w3 r s n c p3) := R3x
      have RW3 : Hid (RowI w3 t (k * 2) V) := RW.out.beside b3 TH.out
      have B3 : Hid (Below w.heap.size w w3) := B2.out.trans (b3.below er.out.1 B2.out.size)
      clear R3x b3 RW R2 B2
      cases b
      · have cs : y < 0 ∨ y = 0 ∨ (0 < y ∧ y < 50000000) ∨ y = 50000000 ∨ 50000000 < y := by omega
        rcases cs with y1 | rfl | ⟨y1, y2⟩ | rfl | y1
        · have y2 : y < 50000000 := by omega
          go_wp2_with fail
          refine (off_any 0 (0) (by omega) (by omega) (by omega) R3.out).mono ?_
          rintro e w4 ⟨x, p4, rfl, wx, R4, b4⟩
          have RW4 : Hid (RowI w4 t (k * 2) V) := RW3.out.beside b4 TH.out
          have B4 : Hid (Below w.heap.size w w4) := B3.out.trans (b4.below er.out.1 B3.out.size)
          clear R4 b4
          go_wp2
          exact bodyPost_ret (v := .tuple #[.slice t k ct, .int .i64 x]) (by simp [results, Try.results31, go_sem]) rfl ⟨k, t, ct, V, _, rfl, by omega, RW4.out, B4.out⟩
        · skip
          go_wp2_with fail
          refine (off_any 0 (0) (by omega) (by omega) (by omega) R3.out).mono ?_
          rintro e w4 ⟨x, p4, rfl, wx, R4, b4⟩
          have RW4 : Hid (RowI w4 t (k * 2) V) := RW3.out.beside b4 TH.out
          have B4 : Hid (Below w.heap.size w w4) := B3.out.trans (b4.below er.out.1 B3.out.size)
          clear R4 b4
          go_wp2
          exact bodyPost_ret (v := .tuple #[.slice t k ct, .int .i64 x]) (by simp [results, Try.results31, go_sem]) rfl ⟨k, t, ct, V, _, rfl, by omega, RW4.out, B4.out⟩
        · have y3 : ¬ y < 0 := by omega
          go_wp2_with fail
          refine (off_any 0 (y) (by omega) (by omega) (by omega) R3.out).mono ?_
          rintro e w4 ⟨x, p4, rfl, wx, R4, b4⟩
          have RW4 : Hid (RowI w4 t (k * 2) V) := RW3.out.beside b4 TH.out
          have B4 : Hid (Below w.heap.size w w4) := B3.out.trans (b4.below er.out.1 B3.out.size)
          clear R4 b4
          go_wp2
          exact bodyPost_ret (v := .tuple #[.slice t k ct, .int .i64 x]) (by simp [results, Try.results31, go_sem]) rfl ⟨k, t, ct, V, _, rfl, by omega, RW4.out, B4.out⟩
        · skip
          go_wp2_with fail
          refine (off_any 0 (50000000) (by omega) (by omega) (by omega) R3.out).mono ?_
          rintro e w4 ⟨x, p4, rfl, wx, R4, b4⟩
          have RW4 : Hid (RowI w4 t (k * 2) V) := RW3.out.beside b4 TH.out
          have B4 : Hid (Below w.heap.size w w4) := B3.out.trans (b4.below er.out.1 B3.out.size)
          clear R4 b4
          go_wp2
          exact bodyPost_ret (v := .tuple #[.slice t k ct, .int .i64 x]) (by simp [results, Try.results31, go_sem]) rfl ⟨k, t, ct, V, _, rfl, by omega, RW4.out, B4.out⟩
        · have y3 : ¬ y < 50000000 := by omega
          go_wp2_with fail
          refine (off_any 0 (50000000) (by omega) (by omega) (by omega) R3.out).mono ?_
          rintro e w4 ⟨x, p4, rfl, wx, R4, b4⟩
          have RW4 : Hid (RowI w4 t (k * 2) V) := RW3.out.beside b4 TH.out
          have B4 : Hid (Below w.heap.size w w4) := B3.out.trans (b4.below er.out.1 B3.out.size)
          clear R4 b4
          go_wp2
          exact bodyPost_ret (v := .tuple #[.slice t k ct, .int .i64 x]) (by simp [results, Try.results31, go_sem]) rfl ⟨k, t, ct, V, _, rfl, by omega, RW4.out, B4.out⟩
      · go_wp2_with fail
        refine (below_any 2 R3.out).mono ?_
        rintro e w4 ⟨z, p4, rfl, z0, z1, z2, R4, b4⟩
        have RW4 : Hid (RowI w4 t (k * 2) V) := RW3.out.beside b4 TH.out
        have B4 : Hid (Below w.heap.size w w4) := B3.out.trans (b4.below er.out.1 B3.out.size)
        clear R4 b4
        obtain ⟨q, hq⟩ : ∃ q, IntKind.i64.wrap (y + z) = q := ⟨_, rfl⟩
        go_wp2
        exact bodyPost_ret (v := .tuple #[.slice t k ct, .int .i64 q]) (by simp [results, Try.results31, go_sem]) rfl ⟨k, t, ct, V, _, rfl, by omega, RW4.out, B4.out⟩
set_option maxHeartbeats 400000 in
theorem drawShare_any {s : Option Addr} {n c : Nat} {w : World} (h : Hid (Code8 w s n)) :
    Calls Try.prog 18 #[.slice s n c] w fun e w' => ∃ m t ct V x, e = .returned (.tuple #[.slice t m ct, .int .i64 x]) ∧ m ≤ 1048576 ∧ RowI w' t (m * 2) V ∧ Below w.heap.size w w' := by
  go_enter Try.func18, Try.ntmps18
  go_wp2_with fail
  refine (drawFall_any h).mono ?_
  rintro e w1 ⟨m, t, ct, V, x, rfl, hm, RWx, bx⟩
  have RW : Hid (RowI w1 t (m * 2) V) := RWx
  have B : Hid (Below w.heap.size w w1) := bx
  clear RWx bx
  go_wp2
  exact bodyPost_ret (v := .tuple #[.slice t m ct, .int .i64 x]) (by simp [results, Try.results18, go_sem]) rfl ⟨m, t, ct, V, _, rfl, hm, RW.out, B.out⟩
end Go.Proofs.Ytgekkblfnfclmaa
