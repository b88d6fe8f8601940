/-
What is proved: along the bits of every code a latch is on from its cause on until a reset without a cause, and holds the cycle in which it first was on; no condition.
-/
import Derived.Test.YtfinbbllgdmaeaaLt
import Derived.Test.YtfinbbllgdmaeaaOpen8L
namespace Go.Proofs.Ytfinbbllgdmaeaa
set_option maxRecDepth 40000
open Go.ChangeShapes Go.WideShapes Go.ChangeAt Go.RowKit
set_option linter.unusedVariables false
set_option linter.unusedSimpArgs false

/-- A latch in its block. -/
def LatAt (w : World) (b : Nat) (on : Bool) (F : Int) : Prop := b < w.heap.size ∧ w.cell? ⟨b, 0, none⟩ = some (.bool on) ∧ w.cell? ⟨b, 1, none⟩ = some (.int .i64 F) ∧ w.frozen? ⟨b, 0, none⟩ = false ∧ w.frozen? ⟨b, 1, none⟩ = false
theorem LatAt.below {w w' : World} {b : Nat} {on : Bool} {F : Int} (h : LatAt w b on F) (hb : Below w.heap.size w w') : LatAt w' b on F := by
  obtain ⟨hz, h0, h1, f0, f1⟩ := h
  exact ⟨Nat.lt_of_lt_of_le hz hb.size, (hb.cell (p := ⟨b, 0, none⟩) hz).trans h0, (hb.cell (p := ⟨b, 1, none⟩) hz).trans h1, (hb.frozen (p := ⟨b, 0, none⟩) hz).trans f0, (hb.frozen (p := ⟨b, 1, none⟩) hz).trans f1⟩
theorem LatAt.put {w : World} {b : Nat} {on x : Bool} {F y : Int} (h : LatAt w b on F) : LatAt ((w.setCell ⟨b, 0, none⟩ (.bool x)).setCell ⟨b, 1, none⟩ (.int .i64 y)) b x y := by
  obtain ⟨hz, h0, h1, f0, f1⟩ := h
  refine ⟨by simpa using hz, ?_, ?_, ?_, ?_⟩ <;> simp [go_sem, h0, h1, f0, f1]
theorem lst_is {on : Bool} {F cy : Int} (h0 : 0 ≤ F) (h1 : F ≤ 300) (h2 : on = true ∨ F = 0) (h3 : 0 ≤ cy) (h4 : cy ≤ 300) : lstB on F cy = true := by
  unfold lstB latB inB
  simp only [Bool.and_eq_true, Bool.or_eq_true, decide_eq_true_iff]
  exact ⟨⟨⟨h0, by omega⟩, h2⟩, h3, by omega⟩
set_option maxHeartbeats 400000 in
theorem latf_far (w : World) (s : Option Addr) (n c : Nat) (h : (1048576 : Int) < n) :
    Calls Try.prog 5 #[.slice s n c] w fun e w' => e = .returned (.bool true) ∧ Below w.heap.size w w' := by
  go_enter Try.func5, Try.ntmps5
  go_wp2_with fail
  refine (big_yes _ _ _ _ h).mono ?_
  rintro e w1 ⟨rfl, rfl⟩
  go_wp2
  go_ret
  exact ⟨rfl, Below.refl _ _⟩
set_option maxRecDepth 20000 in
set_option maxHeartbeats 16000000 in
theorem latf_near (w : World) (s : Option Addr) (n c : Nat) (h : (n : Int) ≤ 1048576) (R : Bytes w s n) :
    Calls Try.prog 5 #[.slice s n c] w fun e w' => e = .returned (.bool true) ∧ Below w.heap.size w w' := by
  have HR : Hid (Bytes w s n) := R
  clear R
  go_enter Try.func5, Try.ntmps5
  go_wp2_with fail
  refine (big_no _ _ _ _ h).mono ?_
  rintro e w1 ⟨rfl, rfl⟩
  go_wp2_with fail
  go_loopw [4, 5, 6] (fun q f i wr => ∃ (j : Nat) (on : Bool) (F : Int), j ≤ n ∧ j ≤ 300 ∧ i = .int .i64 j ∧ q = .bool on ∧ f = .int .i64 F ∧ 0 ≤ F ∧ F ≤ 300 ∧ Hid (on = true ∨ F = 0) ∧ Hid (LatAt wr w1.heap.size on F) ∧ Hid (Below w1.heap.size w1 wr)) (fun _ _ i _ => 300 - (intOf i).toNat)
  case atStart => exact ⟨0, false, 0, by omega, by omega, rfl, rfl, rfl, by omega, by omega, Or.inr rfl, (by refine ⟨by simp, ?_, ?_, ?_, ?_⟩ <;> simp [go_sem]), (by show Below _ _ _; exact (by repeat (first | with_reducible exact Below.refl _ _ | with_reducible refine Below.setCell ?_ (by first | omega | (simp; done) | (simp; omega)) _ | with_reducible refine bDrewN ?_ _ | with_reducible refine Below.drew ?_ | with_reducible refine Below.alloc ?_ (by first | omega | (simp; done) | (simp; omega)) _)))⟩
  case round =>
    obtain ⟨j, on, F, hj, h300, rfl, rfl, rfl, F0, F1, HO, HA, HB⟩ := hrel
    by_cases h1 : j < n
    case neg =>
      obtain rfl : j = n := by omega
      have BF := HB.out
      go_wp2
      go_ret
      exact ⟨rfl, BF⟩
    case pos =>
      have k1 : (j : Int) < n := by omega
      by_cases h2 : j < 300
      case neg =>
        obtain rfl : j = 300 := by omega
        have BF := HB.out
        go_wp2
        go_ret
        exact ⟨rfl, BF⟩
      case pos =>
        have k2 : (j : Int) < 300 := by omega
        obtain ⟨g, of, K, rfl, hg, hc, K0, K1⟩ := HR.out j h1
        have u1 : wr.cell? ⟨g, of + j, none⟩ = some (.int .u8 K) := (HB.out.cell (p := ⟨g, of + j, none⟩) hg).trans hc
        obtain ⟨z0, a0, a1, f0, f1⟩ := HA.out
        obtain ⟨ca, hca⟩ : ∃ ca, (K % 2 == 1) = ca := ⟨_, rfl⟩
        obtain ⟨re, hre⟩ : ∃ re, (K / 2 % 2 == 1) = re := ⟨_, rfl⟩
        have HS : Hid (∀ w, Calls Try.prog 8 #[.agg #[.bool on, .int .i64 F], .bool ca, .bool re, .int .i64 j] w fun e w' => e = .returned (.tuple #[.agg #[.bool (ca || (on && !re)), .int .i64 (if ca = true then (if on = true then F else (j : Int)) else if re = true then 0 else F)], .bool true]) ∧ Below w.heap.size w w') := fun w => implLatch_yes on ca re F j w (lst_is F0 F1 HO.out (by omega) (by omega))
        go_upto_region 11 with fail
        have HQ : Hid ((K % 2 == 1) = ca ∧ (K / 2 % 2 == 1) = re) := ⟨hca, hre⟩
        go_wp2_with fail
        refine (HS.out _).mono ?_
        rintro e w2 ⟨rfl, h2'⟩
        have A2 : Hid (LatAt w2 w1.heap.size on F) := HA.out.below h2'
        obtain ⟨z2, b0, b1, g0, g1⟩ := A2.out
        have B2 : Hid (Below w1.heap.size w1 w2) := HB.out.trans (h2'.mono HB.out.size)
        clear h2' a0 a1 f0 f1 HA HB u1 hca hre HQ hc HS
        cases on
        · have hF := HO.out
          simp at hF
          subst hF
          clear HO
          cases ca <;> cases re
          all_goals
            go_wp2
            go_roundw
            case rel => exact ⟨j + 1, _, _, by omega, by omega, by go_num, rfl, rfl, by first | omega | simp, by first | omega | (simp; done), (by show _ ∨ _; first | exact Or.inl rfl | exact Or.inr rfl), (by show LatAt _ _ _ _; first | exact (A2.out.put).below (by repeat (first | with_reducible exact Below.refl _ _ | with_reducible refine Below.setCell ?_ (by first | omega | (simp; done) | (simp; omega)) _ | with_reducible refine bDrewN ?_ _ | with_reducible refine Below.drew ?_ | with_reducible refine Below.alloc ?_ (by first | omega | (simp; done) | (simp; omega)) _)) | exact (A2.out.below (by repeat (first | with_reducible exact Below.refl _ _ | with_reducible refine Below.setCell ?_ (by first | omega | (simp; done) | (simp; omega)) _ | with_reducible refine bDrewN ?_ _ | with_reducible refine Below.drew ?_ | with_reducible refine Below.alloc ?_ (by first | omega | (simp; done) | (simp; omega)) _))).put), (by show Below _ _ _; have B2 := B2.out; exact (by repeat (first | with_reducible exact Below.refl _ _ | with_reducible exact B2 | with_reducible refine Below.setCell ?_ (by first | omega | (simp; done) | (simp; omega)) _ | with_reducible refine bDrewN ?_ _ | with_reducible refine Below.drew ?_ | with_reducible refine Below.alloc ?_ (by first | omega | (simp; done) | (simp; omega)) _)))⟩
            case measure => simp [intOf]; omega
        · cases ca <;> cases re
          all_goals
            go_wp2
            go_roundw
            case rel => exact ⟨j + 1, _, _, by omega, by omega, by go_num, rfl, rfl, by first | omega | simp, by first | omega | (simp; done), (by show _ ∨ _; first | exact Or.inl rfl | exact Or.inr rfl), (by show LatAt _ _ _ _; first | exact (A2.out.put).below (by repeat (first | with_reducible exact Below.refl _ _ | with_reducible refine Below.setCell ?_ (by first | omega | (simp; done) | (simp; omega)) _ | with_reducible refine bDrewN ?_ _ | with_reducible refine Below.drew ?_ | with_reducible refine Below.alloc ?_ (by first | omega | (simp; done) | (simp; omega)) _)) | exact (A2.out.below (by repeat (first | with_reducible exact Below.refl _ _ | with_reducible refine Below.setCell ?_ (by first | omega | (simp; done) | (simp; omega)) _ | with_reducible refine bDrewN ?_ _ | with_reducible refine Below.drew ?_ | with_reducible refine Below.alloc ?_ (by first | omega | (simp; done) | (simp; omega)) _))).put), (by show Below _ _ _; have B2 := B2.out; exact (by repeat (first | with_reducible exact Below.refl _ _ | with_reducible exact B2 | with_reducible refine Below.setCell ?_ (by first | omega | (simp; done) | (simp; omega)) _ | with_reducible refine bDrewN ?_ _ | with_reducible refine Below.drew ?_ | with_reducible refine Below.alloc ?_ (by first | omega | (simp; done) | (simp; omega)) _)))⟩
            case measure => simp [intOf]; omega
theorem fnLatchFirst_walk (w : World) (s : Option Addr) (n c : Nat) (hn : n ≤ 9223372036854775807) (R : Bytes w s n) :
    Calls Try.prog 5 #[.slice s n c] w fun e w' => e = .returned (.bool true) ∧ Below w.heap.size w w' := by
  by_cases h : n ≤ 1048576
  · exact latf_near w s n c (by omega) R
  · exact latf_far w s n c (by omega)

set_option maxRecDepth 100000 in
theorem fnLatchFirst_lifted (os : Os) (started : os.Started) (H : Type) (enc : TypeId × Value → H) :
    ReturnsInHanded {} Try.checked os 5 .any (Rows.fnLatchFirstSpec.pre6 enc Try.prog Try.f5 Rows.fnLatchFirstRow.domain false) (Rows.fnLatchFirstSpec.post enc Try.prog Try.f5 false true false false) := by
  refine returnsInHanded_of_change (C := Try.checked) own started (by kernel_rfl) Try.func5
    (ChangeSpec.witness6 (enc := enc) (C := Try.checked) false ⟨#[], #[.slice none 0 0], []⟩ 8 (by kernel_rfl) (by kernel_rfl) (by kernel_rfl) (by kernel_rfl)) ?_
  intro W base args ds gs before hval0 hW hcnd _
  have hval : ∀ (j : Nat) t v, Try.f5.params[j]? = some t → args[j]? = some v → Value.okWide Try.prog W .any base t v := hval0
  have hW' := hW
  obtain ⟨p, q, hA0, hV, rfl, hfz, hnd⟩ := hW
  have hA : DataW.TrodAll enc Try.prog W 0 (fun _ => true) true Try.f5.params.toList args.toList ds p := hA0
  rw [Try.params5] at hA hval
  obtain ⟨v0, vs0, d0, ds0, p0, q0, hargs, rfl, rfl, h0, r0⟩ := trodAll_cons hA
  obtain ⟨rfl, rfl, rfl⟩ := trodAll_nil r0
  obtain rfl : args = #[v0] := by cases args; simp_all
  obtain ⟨rfl, rfl⟩ := trodVars_none hV
  have k0 := h0
  have lt0 : ∀ x ∈ p0, x.block < W.heap.size := by obtain ⟨m, hm⟩ := k0; exact DataW.trod_lt m _ _ _ hm
  obtain ⟨s0, n0, c0, rfl, m0, R0⟩ := open_code Try.underlying38 Try.underlying5 (by kernel_rfl) (hval 0 38 v0 rfl rfl) h0
  clear hA0 hval0
  refine (fnLatchFirst_walk W s0 n0 c0 m0 R0).mono fun e W' ⟨he, bel⟩ => ?_
  subst he
  exact ⟨_, rfl, _, _, _, [], _, [], hW', trodAll_mk1 (shut_bool Try.underlying4 _), (trodAll_cons_mk (Below.trod laidOut (by kernel_rfl) (of_decide_eq_true (by kernel_rfl)) k0 bel lt0) trodAll_mk0), rfl, bel.frame _, fun h => by cases h⟩

theorem fnLatchFirst_holds : Rows.FnLatchFirstSaid :=
  OpenClaim.holds_of_wide 5 Try.f5 rfl rfl rfl rfl rfl rfl rfl ⟨rfl, rfl, rfl, rfl, rfl⟩ rfl rfl rfl rfl rfl (by kernel_rfl) Try.func5 (by kernel_rfl)
    (of_decide_eq_true (by kernel_rfl)) (by unfold Func.isWrapper; first | (rw [if_pos (by decide +kernel)]; kernel_rfl) | (rw [if_neg (by decide +kernel)]; exact ⟨rfl, rfl⟩))
    (fun os started H enc _ => fnLatchFirst_lifted os started H enc)
#print axioms fnLatchFirst_holds
end Go.Proofs.Ytfinbbllgdmaeaa
