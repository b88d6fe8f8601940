/-
What is proved: what a drawn valve tells is the state of its lower pressure at the same heat, and a valve to the same pressure changes nothing; at every code, no condition.
-/
import Derived.Test.YtkppgnpedbkbnaaSteamT
import Derived.Test.YtkppgnpedbkbnaaDrawT
import Derived.Test.YtkppgnpedbkbnaaOpen8
namespace Go.Proofs.Ytkppgnpedbkbnaa
set_option maxRecDepth 40000
open Go.ChangeShapes Go.WideShapes Go.ChangeAt Go.RowKit
set_option linter.unusedVariables false
set_option linter.unusedSimpArgs false

theorem SteamV.yes {p h k t u : Int} {ok : Bool} (h1 : SteamV p h k t u ok) (i : steamIn p h) : ok = true := by
  rcases h1 with ⟨_, b, l, v, _, _, _, _, _, _, e⟩ | ⟨j, _⟩
  · exact e
  · exact absurd i j
set_option maxHeartbeats 400000 in
theorem fnThrottled_far (w : World) (s : Option Addr) (n c : Nat) (h : (1048576 : Int) < n) :
    Calls Try.prog 3 #[.slice s n c] w fun e w' => e = .returned (.bool true) ∧ Below w.heap.size w w' := by
  go_enter Try.func3, Try.ntmps3
  go_wp2_with fail
  refine (big_yes _ _ _ _ h).mono ?_
  rintro e w1 ⟨rfl, rfl⟩
  go_wp2
  go_ret
  exact ⟨rfl, Below.refl _ _⟩

set_option maxRecDepth 20000 in
set_option maxHeartbeats 4000000 in
theorem fnThrottled_near (w : World) (s : Option Addr) (n c : Nat) (hn : (n : Int) ≤ 1048576) (HC : Hid (Code8 w s n)) :
    Calls Try.prog 3 #[.slice s n c] w fun e w' => e = .returned (.bool true) ∧ Below w.heap.size w w' := by
  go_enter Try.func3, Try.ntmps3
  go_wp2_with fail
  refine (big_no _ _ _ _ hn).mono ?_
  rintro e w0 ⟨rfl, rfl⟩
  go_wp2_with fail
  refine (drawThrottle_any HC.out).mono ?_
  rintro e w1 ⟨p, h, q, rfl, B1⟩
  have sB1 := B1.size
  obtain ⟨k, t, u, ok, hv⟩ := throttle_some p h q
  have K1 : Hid (∀ w, Calls Try.prog 11 #[.int .i64 p, .int .i64 h, .int .i64 q] w fun e w' => e = .returned (.tuple #[.agg #[.int .i64 k, .int .i64 t, .int .i64 u], .bool ok]) ∧ Below w.heap.size w w') := fun w => (specThrottle_any p h q w).mono fun e w' ⟨⟨k', t', u', ok', q1, q2⟩, q3⟩ => by obtain ⟨rfl, rfl, rfl, rfl⟩ := q1.one hv; exact ⟨q2, q3⟩
  have K2 : Hid (∀ w, Calls Try.prog 12 #[.int .i64 p, .int .i64 h, .int .i64 q] w fun e w' => e = .returned (.tuple #[.agg #[.int .i64 k, .int .i64 t, .int .i64 u], .bool ok]) ∧ Below w.heap.size w w') := fun w => (implThrottle_any p h q w).mono fun e w' ⟨⟨k', t', u', ok', q1, q2⟩, q3⟩ => by obtain ⟨rfl, rfl, rfl, rfl⟩ := q1.one hv; exact ⟨q2, q3⟩
  have HV : Hid (SteamT p h q k t u ok) := hv
  clear hv
  cases ok
  · clear HV
    go_wp2_with fail
    refine (K1.out _).mono ?_
    rintro e w2 ⟨rfl, hw2⟩
    have zw2 := hw2.size
    try simp at zw2
    have Bw2 : Below w0.heap.size w0 w2 := Below.trans (by repeat (first | with_reducible exact Below.refl _ _ | with_reducible exact B1 | with_reducible refine Below.setCell ?_ (by first | omega | (simp; done) | (simp; omega)) _ | with_reducible refine bDrewN ?_ _ | with_reducible refine Below.drew ?_ | with_reducible refine Below.alloc ?_ (by first | omega | (simp; done) | (simp; omega)) _)) (hw2.mono (by first | omega | (simp; done) | (simp; omega)))
    have sBw2 := Bw2.size
    clear hw2
    go_wp2_with fail
    refine (K2.out _).mono ?_
    rintro e w3 ⟨rfl, hw3⟩
    have zw3 := hw3.size
    try simp at zw3
    have Bw3 : Below w0.heap.size w0 w3 := Below.trans (by repeat (first | with_reducible exact Below.refl _ _ | with_reducible exact Bw2 | with_reducible refine Below.setCell ?_ (by first | omega | (simp; done) | (simp; omega)) _ | with_reducible refine bDrewN ?_ _ | with_reducible refine Below.drew ?_ | with_reducible refine Below.alloc ?_ (by first | omega | (simp; done) | (simp; omega)) _)) (hw3.mono (by first | omega | (simp; done) | (simp; omega)))
    have sBw3 := Bw3.size
    clear hw3 zw2
    go_wp2
    go_ret
    exact ⟨by simp, (by repeat (first | with_reducible exact Below.refl _ _ | with_reducible exact Bw3 | with_reducible refine Below.setCell ?_ (by first | omega | (simp; done) | (simp; omega)) _ | with_reducible refine bDrewN ?_ _ | with_reducible refine Below.drew ?_ | with_reducible refine Below.alloc ?_ (by first | omega | (simp; done) | (simp; omega)) _))⟩
  · obtain ⟨i, sv⟩ : throttleIn p h q ∧ SteamV q h k t u true := by
      rcases HV.out with ⟨i, sv⟩ | ⟨_, _, _, _, e⟩
      · exact ⟨i, sv⟩
      · cases e
    obtain ⟨k2, t2, u2, ok2, hv2⟩ := steam_some p h
    obtain rfl := hv2.yes i.1
    have K3 : Hid (∀ w, Calls Try.prog 13 #[.int .i64 q, .int .i64 h] w fun e w' => e = .returned (.tuple #[.agg #[.int .i64 k, .int .i64 t, .int .i64 u], .bool true]) ∧ Below w.heap.size w w') := fun w => (implSteamOf_any q h w).mono fun e w' ⟨⟨k', t', u', ok', q1, q2⟩, q3⟩ => by obtain ⟨rfl, rfl, rfl, rfl⟩ := q1.one sv; exact ⟨q2, q3⟩
    have K4 : Hid (∀ w, Calls Try.prog 12 #[.int .i64 p, .int .i64 h, .int .i64 p] w fun e w' => e = .returned (.tuple #[.agg #[.int .i64 k2, .int .i64 t2, .int .i64 u2], .bool true]) ∧ Below w.heap.size w w') := fun w => (implThrottle_any p h p w).mono fun e w' ⟨⟨k', t', u', ok', q1, q2⟩, q3⟩ => by obtain ⟨rfl, rfl, rfl, rfl⟩ := q1.one (.inl ⟨⟨i.1, i.1, Int.le_refl _⟩, hv2⟩); exact ⟨q2, q3⟩
    have K5 : Hid (∀ w, Calls Try.prog 13 #[.int .i64 p, .int .i64 h] w fun e w' => e = .returned (.tuple #[.agg #[.int .i64 k2, .int .i64 t2, .int .i64 u2], .bool true]) ∧ Below w.heap.size w w') := fun w => (implSteamOf_any p h w).mono fun e w' ⟨⟨k', t', u', ok', q1, q2⟩, q3⟩ => by obtain ⟨rfl, rfl, rfl, rfl⟩ := q1.one hv2; exact ⟨q2, q3⟩
    clear HV i sv hv2
    go_wp2_with fail
    refine (K1.out _).mono ?_
    rintro e w2 ⟨rfl, hw2⟩
    have zw2 := hw2.size
    try simp at zw2
    have Bw2 : Below w0.heap.size w0 w2 := Below.trans (by repeat (first | with_reducible exact Below.refl _ _ | with_reducible exact B1 | with_reducible refine Below.setCell ?_ (by first | omega | (simp; done) | (simp; omega)) _ | with_reducible refine bDrewN ?_ _ | with_reducible refine Below.drew ?_ | with_reducible refine Below.alloc ?_ (by first | omega | (simp; done) | (simp; omega)) _)) (hw2.mono (by first | omega | (simp; done) | (simp; omega)))
    have sBw2 := Bw2.size
    clear hw2
    go_wp2_with fail
    refine (K2.out _).mono ?_
    rintro e w3 ⟨rfl, hw3⟩
    have zw3 := hw3.size
    try simp at zw3
    have Bw3 : Below w0.heap.size w0 w3 := Below.trans (by repeat (first | with_reducible exact Below.refl _ _ | with_reducible exact Bw2 | with_reducible refine Below.setCell ?_ (by first | omega | (simp; done) | (simp; omega)) _ | with_reducible refine bDrewN ?_ _ | with_reducible refine Below.drew ?_ | with_reducible refine Below.alloc ?_ (by first | omega | (simp; done) | (simp; omega)) _)) (hw3.mono (by first | omega | (simp; done) | (simp; omega)))
    have sBw3 := Bw3.size
    clear hw3 zw2
    go_wp2_with fail
    refine (K3.out _).mono ?_
    rintro e w4 ⟨rfl, hw4⟩
    have zw4 := hw4.size
    try simp at zw4
    have cw4_0 : w4.cell? ⟨w3.heap.size, 0, none⟩ = some (.int .i64 k) := (hw4.cell (p := ⟨w3.heap.size, 0, none⟩) (by show w3.heap.size < _; first | omega | (simp; done) | (simp; omega))).trans (by simp [go_sem])
    have cw4_1 : w4.cell? ⟨w3.heap.size, 1, none⟩ = some (.int .i64 t) := (hw4.cell (p := ⟨w3.heap.size, 1, none⟩) (by show w3.heap.size < _; first | omega | (simp; done) | (simp; omega))).trans (by simp [go_sem])
    have cw4_2 : w4.cell? ⟨w3.heap.size, 2, none⟩ = some (.int .i64 u) := (hw4.cell (p := ⟨w3.heap.size, 2, none⟩) (by show w3.heap.size < _; first | omega | (simp; done) | (simp; omega))).trans (by simp [go_sem])
    have lw4_0 : w3.heap.size < w4.heap.size := by omega
    have Bw4 : Below w0.heap.size w0 w4 := Below.trans (by repeat (first | with_reducible exact Below.refl _ _ | with_reducible exact Bw3 | with_reducible refine Below.setCell ?_ (by first | omega | (simp; done) | (simp; omega)) _ | with_reducible refine bDrewN ?_ _ | with_reducible refine Below.drew ?_ | with_reducible refine Below.alloc ?_ (by first | omega | (simp; done) | (simp; omega)) _)) (hw4.mono (by first | omega | (simp; done) | (simp; omega)))
    have sBw4 := Bw4.size
    clear hw4 zw3
    go_wp2_with fail
    refine (K4.out _).mono ?_
    rintro e w5 ⟨rfl, hw5⟩
    have zw5 := hw5.size
    try simp at zw5
    have cw5_0 : w5.cell? ⟨w3.heap.size, 0, none⟩ = some (.int .i64 k) := (hw5.cell (p := ⟨w3.heap.size, 0, none⟩) (by show w3.heap.size < _; first | omega | (simp; done) | (simp; omega))).trans (by simp [go_sem, cw4_0, cw4_1, cw4_2, lw4_0])
    have cw5_1 : w5.cell? ⟨w3.heap.size, 1, none⟩ = some (.int .i64 t) := (hw5.cell (p := ⟨w3.heap.size, 1, none⟩) (by show w3.heap.size < _; first | omega | (simp; done) | (simp; omega))).trans (by simp [go_sem, cw4_0, cw4_1, cw4_2, lw4_0])
    have cw5_2 : w5.cell? ⟨w3.heap.size, 2, none⟩ = some (.int .i64 u) := (hw5.cell (p := ⟨w3.heap.size, 2, none⟩) (by show w3.heap.size < _; first | omega | (simp; done) | (simp; omega))).trans (by simp [go_sem, cw4_0, cw4_1, cw4_2, lw4_0])
    have cw5_3 : w5.cell? ⟨w4.heap.size, 0, none⟩ = some (.int .i64 k) := (hw5.cell (p := ⟨w4.heap.size, 0, none⟩) (by show w4.heap.size < _; first | omega | (simp; done) | (simp; omega))).trans (by simp [go_sem, cw4_0, cw4_1, cw4_2, lw4_0])
    have cw5_4 : w5.cell? ⟨w4.heap.size, 1, none⟩ = some (.int .i64 t) := (hw5.cell (p := ⟨w4.heap.size, 1, none⟩) (by show w4.heap.size < _; first | omega | (simp; done) | (simp; omega))).trans (by simp [go_sem, cw4_0, cw4_1, cw4_2, lw4_0])
    have cw5_5 : w5.cell? ⟨w4.heap.size, 2, none⟩ = some (.int .i64 u) := (hw5.cell (p := ⟨w4.heap.size, 2, none⟩) (by show w4.heap.size < _; first | omega | (simp; done) | (simp; omega))).trans (by simp [go_sem, cw4_0, cw4_1, cw4_2, lw4_0])
    have lw5_0 : w3.heap.size < w5.heap.size := by omega
    have lw5_1 : w4.heap.size < w5.heap.size := by omega
    have Bw5 : Below w0.heap.size w0 w5 := Below.trans (by repeat (first | with_reducible exact Below.refl _ _ | with_reducible exact Bw4 | with_reducible refine Below.setCell ?_ (by first | omega | (simp; done) | (simp; omega)) _ | with_reducible refine bDrewN ?_ _ | with_reducible refine Below.drew ?_ | with_reducible refine Below.alloc ?_ (by first | omega | (simp; done) | (simp; omega)) _)) (hw5.mono (by first | omega | (simp; done) | (simp; omega)))
    have sBw5 := Bw5.size
    clear cw4_0 cw4_1 cw4_2 lw4_0
    clear hw5 zw4
    go_wp2_with fail
    refine (K5.out _).mono ?_
    rintro e w6 ⟨rfl, hw6⟩
    have zw6 := hw6.size
    try simp at zw6
    have cw6_0 : w6.cell? ⟨w3.heap.size, 0, none⟩ = some (.int .i64 k) := (hw6.cell (p := ⟨w3.heap.size, 0, none⟩) (by show w3.heap.size < _; first | omega | (simp; done) | (simp; omega))).trans (by simp [go_sem, cw5_0, cw5_1, cw5_2, cw5_3, cw5_4, cw5_5, lw5_0, lw5_1])
    have cw6_1 : w6.cell? ⟨w3.heap.size, 1, none⟩ = some (.int .i64 t) := (hw6.cell (p := ⟨w3.heap.size, 1, none⟩) (by show w3.heap.size < _; first | omega | (simp; done) | (simp; omega))).trans (by simp [go_sem, cw5_0, cw5_1, cw5_2, cw5_3, cw5_4, cw5_5, lw5_0, lw5_1])
    have cw6_2 : w6.cell? ⟨w3.heap.size, 2, none⟩ = some (.int .i64 u) := (hw6.cell (p := ⟨w3.heap.size, 2, none⟩) (by show w3.heap.size < _; first | omega | (simp; done) | (simp; omega))).trans (by simp [go_sem, cw5_0, cw5_1, cw5_2, cw5_3, cw5_4, cw5_5, lw5_0, lw5_1])
    have cw6_3 : w6.cell? ⟨w4.heap.size, 0, none⟩ = some (.int .i64 k) := (hw6.cell (p := ⟨w4.heap.size, 0, none⟩) (by show w4.heap.size < _; first | omega | (simp; done) | (simp; omega))).trans (by simp [go_sem, cw5_0, cw5_1, cw5_2, cw5_3, cw5_4, cw5_5, lw5_0, lw5_1])
    have cw6_4 : w6.cell? ⟨w4.heap.size, 1, none⟩ = some (.int .i64 t) := (hw6.cell (p := ⟨w4.heap.size, 1, none⟩) (by show w4.heap.size < _; first | omega | (simp; done) | (simp; omega))).trans (by simp [go_sem, cw5_0, cw5_1, cw5_2, cw5_3, cw5_4, cw5_5, lw5_0, lw5_1])
    have cw6_5 : w6.cell? ⟨w4.heap.size, 2, none⟩ = some (.int .i64 u) := (hw6.cell (p := ⟨w4.heap.size, 2, none⟩) (by show w4.heap.size < _; first | omega | (simp; done) | (simp; omega))).trans (by simp [go_sem, cw5_0, cw5_1, cw5_2, cw5_3, cw5_4, cw5_5, lw5_0, lw5_1])
    have cw6_6 : w6.cell? ⟨w5.heap.size, 0, none⟩ = some (.int .i64 k2) := (hw6.cell (p := ⟨w5.heap.size, 0, none⟩) (by show w5.heap.size < _; first | omega | (simp; done) | (simp; omega))).trans (by simp [go_sem, cw5_0, cw5_1, cw5_2, cw5_3, cw5_4, cw5_5, lw5_0, lw5_1])
    have cw6_7 : w6.cell? ⟨w5.heap.size, 1, none⟩ = some (.int .i64 t2) := (hw6.cell (p := ⟨w5.heap.size, 1, none⟩) (by show w5.heap.size < _; first | omega | (simp; done) | (simp; omega))).trans (by simp [go_sem, cw5_0, cw5_1, cw5_2, cw5_3, cw5_4, cw5_5, lw5_0, lw5_1])
    have cw6_8 : w6.cell? ⟨w5.heap.size, 2, none⟩ = some (.int .i64 u2) := (hw6.cell (p := ⟨w5.heap.size, 2, none⟩) (by show w5.heap.size < _; first | omega | (simp; done) | (simp; omega))).trans (by simp [go_sem, cw5_0, cw5_1, cw5_2, cw5_3, cw5_4, cw5_5, lw5_0, lw5_1])
    have lw6_0 : w3.heap.size < w6.heap.size := by omega
    have lw6_1 : w4.heap.size < w6.heap.size := by omega
    have lw6_2 : w5.heap.size < w6.heap.size := by omega
    have Bw6 : Below w0.heap.size w0 w6 := Below.trans (by repeat (first | with_reducible exact Below.refl _ _ | with_reducible exact Bw5 | with_reducible refine Below.setCell ?_ (by first | omega | (simp; done) | (simp; omega)) _ | with_reducible refine bDrewN ?_ _ | with_reducible refine Below.drew ?_ | with_reducible refine Below.alloc ?_ (by first | omega | (simp; done) | (simp; omega)) _)) (hw6.mono (by first | omega | (simp; done) | (simp; omega)))
    have sBw6 := Bw6.size
    clear cw5_0 cw5_1 cw5_2 cw5_3 cw5_4 cw5_5 lw5_0 lw5_1
    clear hw6 zw5
    go_wp2
    go_ret
    exact ⟨by simp, (by repeat (first | with_reducible exact Below.refl _ _ | with_reducible exact Bw6 | with_reducible refine Below.setCell ?_ (by first | omega | (simp; done) | (simp; omega)) _ | with_reducible refine bDrewN ?_ _ | with_reducible refine Below.drew ?_ | with_reducible refine Below.alloc ?_ (by first | omega | (simp; done) | (simp; omega)) _))⟩

theorem fnThrottled_walk (w : World) (s : Option Addr) (n c : Nat) (hn : n ≤ 9223372036854775807) (R : Bytes w s n) :
    Calls Try.prog 3 #[.slice s n c] w fun e w' => e = .returned (.bool true) ∧ Below w.heap.size w w' := by
  by_cases h : n ≤ 1048576
  · exact fnThrottled_near w s n c (by omega) (R.code h)
  · exact fnThrottled_far w s n c (by omega)

set_option maxRecDepth 100000 in
theorem fnThrottled_lifted (os : Os) (started : os.Started) (H : Type) (enc : TypeId × Value → H) :
    ReturnsInHanded {} Try.checked os 3 .any (Rows.fnThrottledSpec.pre6 enc Try.prog Try.f3 Rows.fnThrottledRow.domain false) (Rows.fnThrottledSpec.post enc Try.prog Try.f3 false true false false) := by
  refine returnsInHanded_of_change (C := Try.checked) own started (by kernel_rfl) Try.func3
    (ChangeSpec.witness6 (enc := enc) (C := Try.checked) false ⟨#[], #[.slice none 0 0], []⟩ 8 (by kernel_rfl) (by kernel_rfl) (by kernel_rfl) (by kernel_rfl)) ?_
  intro W base args ds gs before hval0 hW hcnd _
  have hval : ∀ (j : Nat) t v, Try.f3.params[j]? = some t → args[j]? = some v → Value.okWide Try.prog W .any base t v := hval0
  have hW' := hW
  obtain ⟨p, q, hA0, hV, rfl, hfz, hnd⟩ := hW
  have hA : DataW.TrodAll enc Try.prog W 0 (fun _ => true) true Try.f3.params.toList args.toList ds p := hA0
  rw [Try.params3] at hA hval
  obtain ⟨v0, vs0, d0, ds0, p0, q0, hargs, rfl, rfl, h0, r0⟩ := trodAll_cons hA
  obtain ⟨rfl, rfl, rfl⟩ := trodAll_nil r0
  obtain rfl : args = #[v0] := by cases args; simp_all
  obtain ⟨rfl, rfl⟩ := trodVars_none hV
  have k0 := h0
  have lt0 : ∀ x ∈ p0, x.block < W.heap.size := by obtain ⟨m, hm⟩ := k0; exact DataW.trod_lt m _ _ _ hm
  obtain ⟨s0, n0, c0, rfl, m0, R0⟩ := open_code Try.underlying22 Try.underlying5 (by kernel_rfl) (hval 0 22 v0 rfl rfl) h0
  clear hA0 hval0
  refine (fnThrottled_walk W s0 n0 c0 m0 R0).mono fun e W' ⟨he, bel⟩ => ?_
  subst he
  exact ⟨_, rfl, _, _, _, [], _, [], hW', trodAll_mk1 (shut_bool Try.underlying4 _), (trodAll_cons_mk (Below.trod laidOut (by kernel_rfl) (of_decide_eq_true (by kernel_rfl)) k0 bel lt0) trodAll_mk0), rfl, bel.frame _, fun h => by cases h⟩

theorem fnThrottled_holds : Rows.FnThrottledSaid :=
  OpenClaim.holds_of_wide 3 Try.f3 rfl rfl rfl rfl rfl rfl rfl ⟨rfl, rfl, rfl, rfl, rfl⟩ rfl rfl rfl rfl rfl (by kernel_rfl) Try.func3 (by kernel_rfl)
    (of_decide_eq_true (by kernel_rfl)) (by unfold Func.isWrapper; first | (rw [if_pos (by decide +kernel)]; kernel_rfl) | (rw [if_neg (by decide +kernel)]; exact ⟨rfl, rfl⟩))
    (fun os started H enc _ => fnThrottled_lifted os started H enc)
#print axioms fnThrottled_holds
end Go.Proofs.Ytkppgnpedbkbnaa
