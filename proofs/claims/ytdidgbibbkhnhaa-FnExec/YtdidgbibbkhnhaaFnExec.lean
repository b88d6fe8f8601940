/-
What is proved: FnExec: what drawn code leaves in its cells is within the bounds, and the same code, cut behind its first keep and right then, leaves there the same; no condition.
-/
import Derived.Test.YtdidgbibbkhnhaaExE
import Derived.Test.YtdidgbibbkhnhaaFxN
import Derived.Test.YtdidgbibbkhnhaaExS
import Derived.Test.YtdidgbibbkhnhaaExI
import Derived.Test.YtdidgbibbkhnhaaLjIns
import Derived.Test.YtdidgbibbkhnhaaOpen8
import Derived.Deep.RegionHeldLaw
namespace Go.Proofs.Ytdidgbibbkhnhaa
set_option maxRecDepth 40000
open Go.ChangeShapes Go.WideShapes Go.ChangeAt Go.RowKit
set_option linter.unusedVariables false
set_option linter.unusedSimpArgs false

set_option maxHeartbeats 400000 in
theorem fexec_far (w : World) (s : Option Addr) (n c : Nat) (h : (1048576 : Int) < n) :
    Calls Try.prog 3 #[.slice s n c] w fun e w' => e = .returned (.bool true) ∧ Below w.heap.size w w' := by
  go_enter Try.func3, Try.ntmps3
  go_wp2_with fail
  refine (big_yes _ _ _ _ h).mono ?_
  rintro e w1 ⟨rfl, rfl⟩
  go_wp2
  go_ret
  exact ⟨rfl, Below.refl _ _⟩
theorem RowI.part {w : World} {s : Option Addr} {n m : Nat} {V : Nat → Int} (h : RowI w s n V) (hm : m ≤ n) : RowI w s m V := fun j hj => h j (by omega)
set_option maxRecDepth 20000 in
set_option maxHeartbeats 16000000 in
theorem fexec_near (w : World) (s : Option Addr) (n c : Nat) (hn : (n : Int) ≤ 1048576) (HC8 : Hid (Code8 w s n)) :
    Calls Try.prog 3 #[.slice s n c] w fun e w' => e = .returned (.bool true) ∧ Below w.heap.size w w' := by
  go_enter Try.func3, Try.ntmps3
  go_wp2_with fail
  refine (big_no _ _ _ _ hn).mono ?_
  rintro e w1 ⟨rfl, rfl⟩
  rename World => w
  go_wp2_with fail
  refine (drawExec_any HC8).mono ?_
  rintro e w2 h2
  unfold DePost at h2
  obtain ⟨t, k, cap, U, so, a, ca, O, si, ni, ci, I, rfl, ⟨k1, kc⟩, a20, n20, R1, R2, R3, B2⟩ := h2
  have HC : Hid (RowI w2 t (k * 2) U) := R1
  have HO : Hid (RowI w2 so a O) := R2
  have HI : Hid (RowI w2 si ni I) := R3
  have HB : Hid (Below w.heap.size w w2) := B2
  clear R1 R2 R3 B2 HC8 hn
  cases hx : exB k U a O ni I
  case false =>
    go_wp2_with fail
    refine (specExec_any t k cap U so a ca O si ni ci I w2 k1 (by omega) (by omega) HC HO HI).mono ?_
    rintro e w3 h3
    unfold ExPost at h3
    obtain ⟨s3, c3, rfl, -, b3⟩ := h3
    replace HC : Hid (RowI w3 t (k * 2) U) := HC.out.below b3
    replace HO : Hid (RowI w3 so a O) := HO.out.below b3
    replace HI : Hid (RowI w3 si ni I) := HI.out.below b3
    replace HB : Hid (Below w.heap.size w w3) := HB.out.trans (b3.mono HB.out.size)
    clear b3
    simp only [hx, Bool.false_eq_true, if_false]
    go_wp2_with fail
    refine (implExec_any t k cap U so a ca O si ni ci I w3 k1 (by omega) (by omega) HC HO HI).mono ?_
    rintro e w4 h4
    unfold ExPost at h4
    obtain ⟨s4, c4, rfl, o4, b4⟩ := h4
    replace HC : Hid (RowI w4 t (k * 2) U) := HC.out.below b4
    replace HO : Hid (RowI w4 so a O) := HO.out.below b4
    replace HI : Hid (RowI w4 si ni I) := HI.out.below b4
    replace HB : Hid (Below w.heap.size w w4) := HB.out.trans (b4.mono HB.out.size)
    clear b4
    simp only [hx, Bool.false_eq_true, if_false] at o4 ⊢
    have BF := HB.out
    clear hx o4
    go_wp2
    go_ret
    first | exact ⟨rfl, BF⟩ | exact ⟨by simp, BF⟩
  case true =>
  go_wp2_with fail
  refine (specExec_any t k cap U so a ca O si ni ci I w2 k1 (by omega) (by omega) HC HO HI).mono ?_
  rintro e w3 h3
  unfold ExPost at h3
  obtain ⟨s3, c3, rfl, -, b3⟩ := h3
  replace HC : Hid (RowI w3 t (k * 2) U) := HC.out.below b3
  replace HO : Hid (RowI w3 so a O) := HO.out.below b3
  replace HI : Hid (RowI w3 si ni I) := HI.out.below b3
  replace HB : Hid (Below w.heap.size w w3) := HB.out.trans (b3.mono HB.out.size)
  clear b3
  simp only [hx, if_true]
  go_wp2_with fail
  refine (implExec_any t k cap U so a ca O si ni ci I w3 k1 (by omega) (by omega) HC HO HI).mono ?_
  rintro e w4 h4
  unfold ExPost at h4
  obtain ⟨s4, c4, rfl, o4, b4⟩ := h4
  replace HC : Hid (RowI w4 t (k * 2) U) := HC.out.below b4
  replace HO : Hid (RowI w4 so a O) := HO.out.below b4
  replace HI : Hid (RowI w4 si ni I) := HI.out.below b4
  replace HB : Hid (Below w.heap.size w w4) := HB.out.trans (b4.mono HB.out.size)
  clear b4
  simp only [hx, if_true] at o4 ⊢
  have HX : Hid (exB k U a O ni I = true) := hx
  have HN : Hid (RowI w4 s4 a (exK U O I k).N) := o4.row
  have HSM : Hid (∀ j, j < a → -1000000 ≤ (exK U O I k).N j ∧ (exK U O I k).N j ≤ 1000000) := ex_small hx
  obtain ⟨N, hN⟩ : ∃ N, (exK U O I k).N = N := ⟨_, rfl⟩
  have HNN : Hid ((exK U O I k).N = N) := hN
  have k500 : k ≤ 500 := (code_yes (ex_parts hx).1).1
  rw [hN] at HN HSM
  clear o4 hx hN
  have ann : ((a : Int) != (a : Int)) = false := bne_self_eq_false _
  go_wp2_with fail
  go_loopw [10] (fun i wx => wx = w4 ∧ ∃ j : Nat, j ≤ a ∧ i = .int .i64 (j : Int)) (fun i _ => a - (intOf i).toNat)
  case atStart => exact ⟨rfl, 0, by omega, rfl⟩
  case round =>
  obtain ⟨rfl, j, hj, rfl⟩ := hrel
  rename World => w4
  by_cases hlt : j < a
  case pos =>
    obtain ⟨b, o, rfl, hb, hc⟩ := HN.out j hlt
    obtain ⟨x0, x1⟩ := HSM.out j hlt
    obtain ⟨x, hx⟩ : ∃ x, N j = x := ⟨_, rfl⟩
    rw [hx] at hc x0 x1
    have d0 : ¬ 1000000 < x := by omega
    have d1 : ¬ x < -1000000 := by omega
    have jl : (j : Int) < (a : Int) := by omega
    clear hx
    go_wp2
    go_roundw
    case rel => first | exact ⟨rfl, j + 1, by omega, by go_num⟩ | exact ⟨trivial, j + 1, by omega, by go_num⟩ | exact ⟨j + 1, by omega, by go_num⟩
    case measure => simp [intOf]; omega
  case neg =>
  have jl : ¬ (j : Int) < (a : Int) := by omega
  obtain rfl : j = a := by omega
  clear hlt hj
  go_wp2_with fail
  go_loopw [11] (fun i wx => wx = w4 ∧ ∃ q : Nat, q ≤ k ∧ i = .int .i64 (q : Int)) (fun i _ => k - (intOf i).toNat)
  case atStart => exact ⟨rfl, 0, by omega, rfl⟩
  case round =>
  obtain ⟨rfl, q, hq, rfl⟩ := hrel
  rename World => w4
  by_cases hlt : q < k
  case neg =>
    have ql : ¬ (q : Int) < (k : Int) := by omega
    have BF := HB.out
    clear HC HO HI HN
    go_wp2
    go_ret
    first | exact ⟨rfl, BF⟩ | exact ⟨by simp, BF⟩
  case pos =>
  have ql : (q : Int) < (k : Int) := by omega
  obtain ⟨b, o, e1, hb, hc⟩ := HC.out (q * 2) (by omega)
  subst e1
  obtain ⟨b', o', e1, -, hc1⟩ := HC.out (q * 2 + 1) (by omega)
  cases e1
  by_cases h6 : U (q * 2) = 6
  case neg =>
    obtain ⟨x, hx⟩ : ∃ x, U (q * 2) = x := ⟨_, rfl⟩
    rw [hx] at hc h6
    have d6 : (x != 6) = true := by simpa using h6
    clear hx h6
    go_wp2
    go_roundw
    case rel => first | exact ⟨rfl, q + 1, by omega, by go_num⟩ | exact ⟨trivial, q + 1, by omega, by go_num⟩ | exact ⟨q + 1, by omega, by go_num⟩
    case measure => simp [intOf]; omega
  case pos =>
  have H6 : Hid (U (q * 2) = 6) := h6
  rw [h6] at hc
  clear h6
  have qc : q + 1 ≤ cap := by omega
  have qci : (q : Int) + 1 ≤ (cap : Int) := by omega
  go_wp2_with fail
  refine (specCodeOk_any (some ⟨b, o, none⟩) (q + 1) cap U (j : Int) (ni : Int) w4 (by omega) (HC.out.part (by omega))).mono ?_
  rintro e w5 ⟨rfl, b5⟩
  replace HC : Hid (RowI w5 (some ⟨b, o, none⟩) (k * 2) U) := HC.out.below b5
  replace HO : Hid (RowI w5 so j O) := HO.out.below b5
  replace HI : Hid (RowI w5 si ni I) := HI.out.below b5
  replace HB : Hid (Below w.heap.size w w5) := HB.out.trans (b5.mono HB.out.size)
  replace HN : Hid (RowI w5 s4 j N) := HN.out.below b5
  replace hc := (b5.cell (p := ⟨b, o + q * 2, none⟩) hb).trans hc
  replace hc1 := (b5.cell (p := ⟨b, o + (q * 2 + 1), none⟩) hb).trans hc1
  replace hb : b < w5.heap.size := Nat.lt_of_lt_of_le hb b5.size
  clear b5
  cases hcb : codeB (q + 1) U (j : Int) (ni : Int)
  case false =>
    have BF := HB.out
    clear hcb HC HO HI HN
    go_wp2
    go_ret
    first | exact ⟨rfl, BF⟩ | exact ⟨by simp, BF⟩
  case true =>
  obtain ⟨hex, M, hM, Ma, hMM⟩ := ex_cut HX.out hlt H6.out hcb
  rw [HNN.out] at hMM
  have HEX : Hid (exB (q + 1) U j O ni I = true) := hex
  have HMM : Hid ((exK U O I (q + 1)).N M = N M) := hMM
  rw [hM] at hc1
  clear hcb hex hMM hM
  have Ms : w5.ownsRow w5.heap.size 31 2 (.slice none 0 0) 0 [] := ⟨rfl, .inl ⟨rfl, rfl⟩⟩
  go_wp2_with (first | (at_builtin; refine join_Instr w5.heap.size (.slice (some ⟨w5.heap.size, 0, none⟩) 0 0) 0 (fun _ => 0) _ _ ⟨b, o, none⟩ (q + 1) cap U (by rfl) (by rfl) (by rfl) (by rfl) (Lst.lit w5 _ _ 31 2 _ (Nat.le_refl _)) (by omega) (by omega) (by simp) ((HC.out.part (by omega)).below (below0 _ _)) ?_; intro v6 w6 l6 b6))
  have B6 : Below w5.heap.size w5 w6 := (below0 w5 _).trans b6
  obtain ⟨t6, c6, e6, o6⟩ := l6.own
  subst e6
  have HC6 : Hid (RowI w6 t6 ((q + 1) * 2) U) := fun j hj => by
    obtain ⟨b, e, _, hl, hc, _⟩ := o6 j (by omega)
    refine ⟨b, 0, e, hl, ?_⟩
    rw [Nat.zero_add, hc]
    unfold catU
    simp
  replace HC : Hid (RowI w6 (some ⟨b, o, none⟩) (k * 2) U) := HC.out.below B6
  replace HO : Hid (RowI w6 so j O) := HO.out.below B6
  replace HI : Hid (RowI w6 si ni I) := HI.out.below B6
  replace HB : Hid (Below w.heap.size w w6) := HB.out.trans (B6.mono HB.out.size)
  replace HN : Hid (RowI w6 s4 j N) := HN.out.below B6
  replace hc := (B6.cell (p := ⟨b, o + q * 2, none⟩) hb).trans hc
  replace hc1 := (B6.cell (p := ⟨b, o + (q * 2 + 1), none⟩) hb).trans hc1
  replace hb : b < w6.heap.size := Nat.lt_of_lt_of_le hb B6.size
  clear B6 b6 l6 o6 Ms
  rw [Nat.zero_add]
  go_wp2_with fail
  refine (implExec_any t6 (q + 1) c6 U so j ca O si ni ci I w6 (by omega) (by omega) (by omega) HC6 HO HI).mono ?_
  rintro e w7 h7
  unfold ExPost at h7
  obtain ⟨s7, c7, rfl, o7, b7⟩ := h7
  simp only [HEX.out, if_true] at o7 ⊢
  have BF : Below w.heap.size w w7 := HB.out.trans (b7.mono HB.out.size)
  obtain ⟨g7, z7, e7, l7, hc7⟩ := o7.row M Ma
  subst e7
  rw [HMM.out] at hc7
  obtain ⟨g8, z8, e8, l8, hc8⟩ := HN.out M Ma
  subst e8
  replace hc8 := (b7.cell (p := ⟨g8, z8 + M, none⟩) l8).trans hc8
  replace hc1 := (b7.cell (p := ⟨b, o + (q * 2 + 1), none⟩) hb).trans hc1
  rw [← Nat.add_assoc] at hc1
  obtain ⟨x, hx⟩ : ∃ x, N M = x := ⟨_, rfl⟩
  rw [hx] at hc7 hc8
  have Mi : (M : Int) < (j : Int) := by omega
  have jj : ((j : Int) == (j : Int)) = true := by simp
  clear b7 o7 hx hc HC HC6 HO HI HN HB
  go_upto_region 24 with fail
  go_quiet (fail)
  go_wp2
  go_ret
  first | exact ⟨rfl, BF⟩ | exact ⟨by simp, BF⟩ | exact ⟨rfl, (by repeat (first | with_reducible exact Below.refl _ _ | with_reducible exact BF | with_reducible refine Below.setCell ?_ (by first | omega | (simp; done) | (simp; omega)) _ | with_reducible refine bDrewN ?_ _ | with_reducible refine Below.drew ?_ | with_reducible refine Below.alloc ?_ (by first | omega | (simp; done) | (simp; omega)) _))⟩
theorem fnExec_walk (w : World) (s : Option Addr) (n c : Nat) (hn : n ≤ 9223372036854775807) (R : Bytes w s n) :
    Calls Try.prog 3 #[.slice s n c] w fun e w' => e = .returned (.bool true) ∧ Below w.heap.size w w' := by
  by_cases h : n ≤ 1048576
  · exact fexec_near w s n c (by omega) (R.code h)
  · exact fexec_far w s n c (by omega)

set_option maxRecDepth 100000 in
theorem fnExec_lifted (os : Os) (started : os.Started) (H : Type) (enc : TypeId × Value → H) :
    ReturnsInHanded {} Try.checked os 3 .any (Rows.fnExecSpec.pre6 enc Try.prog Try.f3 Rows.fnExecRow.domain false) (Rows.fnExecSpec.post enc Try.prog Try.f3 false true false false) := by
  refine returnsInHanded_of_change (C := Try.checked) own started (by kernel_rfl) Try.func3
    (ChangeSpec.witness6 (enc := enc) (C := Try.checked) false ⟨#[], #[.slice none 0 0], []⟩ 8 (by kernel_rfl) (by kernel_rfl) (by kernel_rfl) (by kernel_rfl)) ?_
  intro W base args ds gs before hval0 hW hcnd _
  have hval : ∀ (j : Nat) t v, Try.f3.params[j]? = some t → args[j]? = some v → Value.okWide Try.prog W .any base t v := hval0
  have hW' := hW
  obtain ⟨p, q, hA0, hV, rfl, hfz, hnd⟩ := hW
  have hA : DataW.TrodAll enc Try.prog W 0 (fun _ => true) true Try.f3.params.toList args.toList ds p := hA0
  rw [Try.params3] at hA hval
  obtain ⟨v0, vs0, d0, ds0, p0, q0, hargs, rfl, rfl, h0, r0⟩ := trodAll_cons hA
  obtain ⟨rfl, rfl, rfl⟩ := trodAll_nil r0
  obtain rfl : args = #[v0] := by cases args; simp_all
  obtain ⟨rfl, rfl⟩ := trodVars_none hV
  have k0 := h0
  have lt0 : ∀ x ∈ p0, x.block < W.heap.size := by obtain ⟨m, hm⟩ := k0; exact DataW.trod_lt m _ _ _ hm
  obtain ⟨s0, n0, c0, rfl, m0, R0⟩ := open_code Try.underlying22 Try.underlying5 (by kernel_rfl) (hval 0 22 v0 rfl rfl) h0
  clear hA0 hval0
  refine (fnExec_walk W s0 n0 c0 m0 R0).mono fun e W' ⟨he, bel⟩ => ?_
  subst he
  exact ⟨_, rfl, _, _, _, [], _, [], hW', trodAll_mk1 (shut_bool Try.underlying4 _), (trodAll_cons_mk (Below.trod laidOut (by kernel_rfl) (of_decide_eq_true (by kernel_rfl)) k0 bel lt0) trodAll_mk0), rfl, bel.frame _, fun h => by cases h⟩

theorem fnExec_holds : Rows.FnExecSaid :=
  OpenClaim.holds_of_wide 3 Try.f3 rfl rfl rfl rfl rfl rfl rfl ⟨rfl, rfl, rfl, rfl, rfl⟩ rfl rfl rfl rfl rfl (by kernel_rfl) Try.func3 (by kernel_rfl)
    (of_decide_eq_true (by kernel_rfl)) (by unfold Func.isWrapper; first | (rw [if_pos (by decide +kernel)]; kernel_rfl) | (rw [if_neg (by decide +kernel)]; exact ⟨rfl, rfl⟩))
    (fun os started H enc _ => fnExec_lifted os started H enc)
#print axioms fnExec_holds
end Go.Proofs.Ytdidgbibbkhnhaa
