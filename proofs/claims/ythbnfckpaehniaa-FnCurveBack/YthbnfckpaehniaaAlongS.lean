/-
What is proved: the specification's Along.
-/
import Derived.Test.YthbnfckpaehniaaAlongI
namespace Go.Proofs.Ythbnfckpaehniaa
set_option maxRecDepth 40000
open Go.RowKit
set_option linter.unusedVariables false

set_option maxHeartbeats 400000 in
theorem l1Down_any (a b : Int) (w : World) (ha : -1000000000000000 ≤ a) (ha' : a ≤ 1000000000000000) (hb : 1 ≤ b) (hb' : b ≤ 1000000000000000) :
    Calls Try.prog 23 #[.int .i64 a, .int .i64 b] w fun e w' => e = .returned (.int .i64 (a / b)) ∧ w' = w := by
  obtain ⟨d1, d2⟩ := down_eq (a := a) hb
  obtain ⟨q1, q2⟩ := tdiv_bounds (a := a) (b := b) ha ha' hb
  have D1 : Hid _ := d1
  have D2 : Hid _ := d2
  clear d1 d2
  by_cases s : a.tmod b < 0
  · go_enter Try.func23, Try.ntmps23
    go_wp2
    go_ret
    exact ⟨ret_int (by rw [← D1.out s]), rfl⟩
  · go_enter Try.func23, Try.ntmps23
    go_wp2
    go_ret
    exact ⟨ret_int (D2.out (by omega)), rfl⟩
set_option maxHeartbeats 1000000 in
theorem specAlong_no (s : Option Addr) (n c : Nat) (x : Int) (w : World)
    (K : Hid (Calls Try.prog 13 #[.slice s n c] w fun e w' => e = .returned (.bool false) ∧ Below w.heap.size w w')) :
    Calls Try.prog 17 #[.slice s n c, .int .i64 x] w fun e w' => e = .returned (.tuple #[.int .i64 0, .bool false]) ∧ Below w.heap.size w w' := by
  go_enter Try.func17, Try.ntmps17
  go_wp2_with fail
  refine K.out.mono ?_
  rintro r w1 ⟨rfl, h1⟩
  go_wp2
  exact bodyPost_ret (v := .tuple #[.int .i64 0, .bool false]) (by simp [results, Try.results17, go_sem]) rfl ⟨rfl, (by repeat (first | with_reducible exact Below.refl _ _ | with_reducible exact h1 | with_reducible refine Below.setCell ?_ (by first | omega | (simp; done) | (simp; omega)) _ | with_reducible refine bDrewN ?_ _ | with_reducible refine Below.drew ?_ | with_reducible refine Below.alloc ?_ (by first | omega | (simp; done) | (simp; omega)) _))⟩
set_option maxRecDepth 20000 in
set_option maxHeartbeats 1000000 in
theorem specAlong_on (s : Option Addr) (n c : Nat) (V : Nat → Int) (x : Int) (w : World) (hn : (n : Int) ≤ 60) (hn2 : (2 : Int) ≤ n) (HR : Hid (RowI w s (n * 2) V)) (HC : Hid (curveB n V = true)) (HO : Hid (okTo V n = true))
    (K : Hid (Calls Try.prog 13 #[.slice s n c] w fun e w' => e = .returned (.bool true) ∧ Below w.heap.size w w')) :
    Calls Try.prog 17 #[.slice s n c, .int .i64 x] w fun e w' => (∃ y ok, AV n V x y ok ∧ e = .returned (.tuple #[.int .i64 y, .bool ok])) ∧ Below w.heap.size w w' := by
  go_enter Try.func17, Try.ntmps17
  go_wp2_with fail
  refine K.out.mono ?_
  rintro r w1 ⟨rfl, h1⟩
  have HR1 : Hid (RowI w1 s (n * 2) V) := HR.out.below h1
  go_wp2_with fail
  go_loopw [6] (fun i wr => ∃ k : Nat, k ≤ n ∧ i = .int .i64 k ∧ Below w1.heap.size w1 wr ∧ Hid (k = 0 ∨ x < V 0 ∨ V ((k - 1) * 2) < x)) (fun i _ => n - (intOf i).toNat)
  case atStart => exact ⟨0, Nat.zero_le _, rfl, (by repeat (first | with_reducible exact Below.refl _ _ | with_reducible refine Below.setCell ?_ (by first | omega | (simp; done) | (simp; omega)) _ | with_reducible refine bDrewN ?_ _ | with_reducible refine Below.drew ?_ | with_reducible refine Below.alloc ?_ (by first | omega | (simp; done) | (simp; omega)) _)), .inl rfl⟩
  case round =>
    obtain ⟨k, hk, rfl, hB, hv⟩ := hrel
    have BW : Hid (Below w.heap.size w wr) := h1.trans (hB.mono h1.size)
    by_cases hkn : k < n
    · have HRr := HR1.out.below hB
      obtain ⟨g, o, rfl, hg, c0⟩ := HRr (k * 2) (by omega)
      obtain ⟨g', o', e', hg', c1⟩ := HRr (k * 2 + 1) (by omega)
      cases e'
      have u1 : wr.cell? ⟨g, o + k * 2 + 1, none⟩ = some (.int .i64 (V (k * 2 + 1))) := c1
      have k1 : (k : Int) < (n : Int) := by omega
      have HN : Hid (k < n) := hkn
      by_cases q : V (k * 2) = x
      · have A : Hid (AV n V x (V (k * 2 + 1)) true) := by
          show AV n V x (V (k * 2 + 1)) true
          refine .inr ⟨HC.out, .inr ?_⟩
          rcases Nat.eq_zero_or_pos k with z | z
          · subst z
            refine ⟨0, by omega, by omega, ?_, ?_, rfl⟩
            · have := ok_rise HO.out (i := 0) (by omega); omega
            · rw [← q, seg_left]
          · obtain ⟨j, rfl⟩ : ∃ j, k = j + 1 := ⟨k - 1, by omega⟩
            have r := ok_rise HO.out hkn
            refine ⟨j, hkn, by omega, by omega, ?_, rfl⟩
            rw [← q, seg_right r]
        have BW2 := BW.out
        clear hv HRr c1 hg'
        go_wp2
        exact bodyPost_ret (v := .tuple #[.int .i64 (V (k * 2 + 1)), .bool true]) (by simp [results, Try.results17, go_sem]) rfl ⟨⟨_, true, A.out, rfl⟩, (by repeat (first | with_reducible exact Below.refl _ _ | with_reducible exact BW2 | with_reducible refine Below.setCell ?_ (by first | omega | (simp; done) | (simp; omega)) _ | with_reducible refine bDrewN ?_ _ | with_reducible refine Below.drew ?_ | with_reducible refine Below.alloc ?_ (by first | omega | (simp; done) | (simp; omega)) _))⟩
      · rcases Nat.eq_zero_or_pos k with z | z
        · subst z
          simp only [Nat.zero_mul, Nat.add_zero, Nat.zero_add] at c0 u1 q
          have NX : Hid (1 = 0 ∨ x < V 0 ∨ V ((1 - 1) * 2) < x) := by show _ ∨ _; simp only [Nat.sub_self, Nat.zero_mul]; omega
          clear hv HRr c1 hg'
          go_wp2
          go_round
          case rel => exact ⟨1, by have := HN.out; omega, by go_num, hB, NX⟩
          case measure => have := HN.out; simp [intOf]; omega
        · obtain ⟨m, hm⟩ : ∃ m, k = m + 1 := ⟨k - 1, by omega⟩
          obtain ⟨g', o', e', hg'', d0⟩ := HRr (m * 2) (by omega)
          cases e'
          obtain ⟨g', o', e', hg'', d1⟩ := HRr (m * 2 + 1) (by omega)
          cases e'
          have v1 : wr.cell? ⟨g, o + m * 2 + 1, none⟩ = some (.int .i64 (V (m * 2 + 1))) := d1
          have km : (k : Int) - 1 = (m : Int) := by omega
          have wm : IntKind.i64.wrap (m : Int) = (m : Int) := by rw [IntKind.wrap_i64]; omega
          have kz : (0 : Int) < (k : Int) := by omega
          have mn : (m : Int) < (n : Int) := by omega
          have HM : Hid (k = m + 1) := hm
          by_cases q2 : V (m * 2) < x ∧ x < V (k * 2)
          · obtain ⟨q3, q4⟩ := q2
            have hj : m + 1 < n := by omega
            obtain ⟨z1, z2, z3, z4⟩ := seg_small HO.out hj (x := x) (by omega) (by rw [← hm]; omega)
            have hb := div_small z1 z2 z3
            obtain ⟨⟨a1, a2⟩, ⟨a3, a4⟩⟩ := ok_in HO.out (show m < n by omega)
            obtain ⟨⟨b1, b2⟩, ⟨b3, b4⟩⟩ := ok_in HO.out hkn
            have A : Hid (AV n V x (segV V x m) true) := .inr ⟨HC.out, .inr ⟨m, hj, by omega, by rw [← hm]; omega, rfl, rfl⟩⟩
            have SG : Hid (V (m * 2 + 1) + (V (k * 2 + 1) - V (m * 2 + 1)) * (x - V (m * 2)) / (V (k * 2) - V (m * 2)) = segV V x m) := by show _ = segV V x m; rw [hm]; rfl
            rw [← hm] at z1 z2 z3 z4 hb
            have LD : Hid (∀ w, Calls Try.prog 23 #[.int .i64 ((V (k * 2 + 1) - V (m * 2 + 1)) * (x - V (m * 2))), .int .i64 (V (k * 2) - V (m * 2))] w fun e w' => e = .returned (.int .i64 ((V (k * 2 + 1) - V (m * 2 + 1)) * (x - V (m * 2)) / (V (k * 2) - V (m * 2)))) ∧ w' = w) := fun w => l1Down_any _ _ w (by omega) (by omega) z3 (by omega)
            have BW2 := BW.out
            have w1 : IntKind.i64.wrap (V (k * 2 + 1) - V (m * 2 + 1)) = V (k * 2 + 1) - V (m * 2 + 1) := by rw [IntKind.wrap_i64]; omega
            have w2 : IntKind.i64.wrap (x - V (m * 2)) = x - V (m * 2) := by rw [IntKind.wrap_i64]; omega
            have w3 : IntKind.i64.wrap (V (k * 2) - V (m * 2)) = V (k * 2) - V (m * 2) := by rw [IntKind.wrap_i64]; omega
            have w4 : IntKind.i64.wrap ((V (k * 2 + 1) - V (m * 2 + 1)) * (x - V (m * 2))) = (V (k * 2 + 1) - V (m * 2 + 1)) * (x - V (m * 2)) := by rw [IntKind.wrap_i64]; omega
            have w5 : IntKind.i64.wrap (V (m * 2 + 1) + (V (k * 2 + 1) - V (m * 2 + 1)) * (x - V (m * 2)) / (V (k * 2) - V (m * 2))) = segV V x m := by rw [← SG.out, IntKind.wrap_i64]; omega
            clear hv HRr c1 hg' d1 hm
            go_wp2_with fail
            go_quiet (first | (go_at_call 23; exact Calls.quiet_of_same (LD.out _)))
            go_wp2
            exact bodyPost_ret (v := .tuple #[.int .i64 (segV V x m), .bool true]) (by simp [results, Try.results17, go_sem]) rfl ⟨⟨_, true, A.out, rfl⟩, (by repeat (first | with_reducible exact Below.refl _ _ | with_reducible exact BW2 | with_reducible refine Below.setCell ?_ (by first | omega | (simp; done) | (simp; omega)) _ | with_reducible refine bDrewN ?_ _ | with_reducible refine Below.drew ?_ | with_reducible refine Below.alloc ?_ (by first | omega | (simp; done) | (simp; omega)) _))⟩
          · have NX : Hid (k + 1 = 0 ∨ x < V 0 ∨ V ((k + 1 - 1) * 2) < x) := by
              show _ ∨ _
              rw [Nat.add_sub_cancel]
              rcases hv.out with z' | z' | z'
              · omega
              · exact .inr (.inl z')
              · rw [hm, Nat.add_sub_cancel] at z'
                refine .inr (.inr ?_)
                omega
            clear hv HRr c1 hg' d1 hm
            go_wp2
            all_goals
              go_round
              case rel => exact ⟨k + 1, by have := HN.out; omega, by go_num, hB, NX⟩
              case measure => have := HN.out; simp [intOf]; omega
    · obtain rfl : k = n := by omega
      have A : Hid (AV k V x 0 false) := by
        show AV k V x 0 false
        refine .inr ⟨HC.out, .inl ⟨?_, rfl, rfl⟩⟩
        rcases hv.out with z | z | z
        · omega
        · exact .inl z
        · exact .inr z
      have BW2 := BW.out
      go_wp2
      exact bodyPost_ret (v := .tuple #[.int .i64 0, .bool false]) (by simp [results, Try.results17, go_sem]) rfl ⟨⟨0, false, A.out, rfl⟩, (by repeat (first | with_reducible exact Below.refl _ _ | with_reducible exact BW2 | with_reducible refine Below.setCell ?_ (by first | omega | (simp; done) | (simp; omega)) _ | with_reducible refine bDrewN ?_ _ | with_reducible refine Below.drew ?_ | with_reducible refine Below.alloc ?_ (by first | omega | (simp; done) | (simp; omega)) _))⟩
end Go.Proofs.Ythbnfckpaehniaa
