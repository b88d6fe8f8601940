/-
What is proved: FnCalibrated: by a calibration that is drawn, with a, b, low and high of at most 900 and a and b 0.09 apart at least, both are read as told within a thousandth; no condition.
-/
import Derived.Test.YtpnhliijkepbbaaCaD
import Derived.Test.YtpnhliijkepbbaaCaN
import Derived.Test.YtpnhliijkepbbaaOpen8
namespace Go.Proofs.Ytpnhliijkepbbaa
set_option maxRecDepth 40000
open Go.ChangeShapes Go.WideShapes Go.ChangeAt Go.RowKit
set_option linter.unusedVariables false
set_option linter.unusedSimpArgs false

theorem lit9 : Fin 4651127699538968576 ∧ rv 4651127699538968576 = 900 := by
  refine ⟨⟨by decide, by decide⟩, ?_⟩
  have h := rv_lit (x := 4651127699538968576) (m := 7916483719987200) (k := 43) (by decide) (by decide) (by decide)
  have e : ((2 ^ 43 : Nat) : Rat) = 8796093022208 := by decide
  rw [e] at h
  have e2 : ((7916483719987200 : Nat) : Rat) = 7916483719987200 := by push_cast; rfl
  rw [e2] at h
  grind
theorem lit09 : Fin 4591149604126578442 ∧ 899 / 10000 ≤ rv 4591149604126578442 := by
  refine ⟨⟨by decide, by decide⟩, ?_⟩
  have h := rv_lit (x := 4591149604126578442) (m := 6485183463413514) (k := 56) (by decide) (by decide) (by decide)
  have e : ((2 ^ 56 : Nat) : Rat) = 72057594037927936 := by decide
  rw [e] at h
  have e2 : ((6485183463413514 : Nat) : Rat) = 6485183463413514 := by push_cast; rfl
  rw [e2] at h
  grind
theorem lit001 : Fin 4562254508917369340 ∧ 9 / 10000 ≤ rv 4562254508917369340 := by
  refine ⟨⟨by decide, by decide⟩, ?_⟩
  have h := rv_lit (x := 4562254508917369340) (m := 4611686018427388) (k := 62) (by decide) (by decide) (by decide)
  have e : ((2 ^ 62 : Nat) : Rat) = 4611686018427387904 := by decide
  rw [e] at h
  have e2 : ((4611686018427388 : Nat) : Rat) = 4611686018427388 := by push_cast; rfl
  rw [e2] at h
  grind
theorem in9_of {x y : Nat} (hx : Fin x) (hs : Sized x y) (h : (FloatKind.f64.format.order y 4651127699538968576 == some .gt) = false) : In9 x := by
  obtain ⟨fy, y0, hy⟩ := hs
  rw [gt_rv fy lit9.1, lit9.2] at h
  have h1 : ¬ 900 < rv y := of_decide_eq_false h
  refine ⟨hx, ?_, ?_⟩ <;> (rcases hy with e | e <;> grind)
theorem apart_of {a b d y : Nat} (ha : In9 a) (hb : In9 b) (hd : Fin d) (hn : Nr 1800 (rv a - rv b) (rv d)) (hs : Sized d y) (h : (FloatKind.f64.format.order y 4591149604126578442 == some .lt) = false) : 89 / 1000 ≤ rv b - rv a ∨ rv b - rv a ≤ -(89 / 1000) := by
  obtain ⟨fy, y0, hy⟩ := hs
  rw [lt_rv fy lit09.1] at h
  have h1 : ¬ rv y < rv 4591149604126578442 := of_decide_eq_false h
  have h2 := lit09.2
  obtain ⟨n1, n2⟩ := hn
  rcases hy with e | e
  · right; grind
  · left; grind
theorem near_of {y l d z : Nat} (hy : At y l) (hl : In9 l) (hn : Nr 1 (rv y - rv l) (rv d)) (hs : Sized d z) : (FloatKind.f64.format.order z 4562254508917369340 == some .lt) = true := by
  obtain ⟨fz, z0, hz⟩ := hs
  rw [lt_rv fz lit001.1]
  have h2 := lit001.2
  obtain ⟨fy, y1, y2⟩ := hy
  obtain ⟨n1, n2⟩ := hn
  apply decide_eq_true
  rcases hz with e | e <;> grind
theorem cal_yes {a b l h : Nat} (la : a < 18446744073709551616) (lb : b < 18446744073709551616) (ll : l < 18446744073709551616) (lh : h < 18446744073709551616) (k : calB a b l h = true) : Fin a ∧ Fin b ∧ Fin l ∧ Fin h := by
  unfold calB at k
  simp only [Bool.and_eq_true] at k
  exact ⟨known_fin la k.1, known_fin lb k.2.1, known_fin ll k.2.2.1, known_fin lh k.2.2.2.1⟩
set_option maxHeartbeats 400000 in
theorem calibrated_far (w : World) (s : Option Addr) (n c : Nat) (h : (1048576 : Int) < n) :
    Calls Try.prog 3 #[.slice s n c] w fun e w' => e = .returned (.bool true) ∧ Below w.heap.size w w' := by
  go_enter Try.func3, Try.ntmps3
  go_wp2_with fail
  refine (big_yes _ _ _ _ h).mono ?_
  rintro e w1 ⟨rfl, rfl⟩
  go_wp2
  go_ret
  exact ⟨rfl, Below.refl _ _⟩
set_option maxRecDepth 20000 in
set_option maxHeartbeats 16000000 in
theorem calibrated_near (w : World) (s : Option Addr) (n c : Nat) (hn : (n : Int) ≤ 1048576) (HC8 : Hid (Code8 w s n)) :
    Calls Try.prog 3 #[.slice s n c] w fun e w' => e = .returned (.bool true) ∧ Below w.heap.size w w' := by
  go_enter Try.func3, Try.ntmps3
  go_wp2_with fail
  refine (big_no _ _ _ _ hn).mono ?_
  rintro e w1 ⟨rfl, rfl⟩
  rename World => w
  go_wp2_with fail
  refine (drawCal_any HC8).mono ?_
  rintro e w2 ⟨a, b, l, h, rfl, la, lb, ll, lh, B2⟩
  go_wp2_with fail
  refine (specCal_any a b l h la lb ll lh _).mono ?_
  rintro e w3 ⟨x1, y1, rfl, -, -, b3⟩
  have B3 : Below w.heap.size w w3 := B2.trans (b3.mono B2.size)
  clear b3 B2
  go_wp2_with fail
  refine (implCal_any a b l h la lb ll lh _).mono ?_
  rintro e w4 ⟨x2, y2, rfl, f2, g2, b4⟩
  have B4 : Below w.heap.size w w4 := B3.trans (b4.mono B3.size)
  have HG : Hid (Fl x2 (calG a b l h)) := f2
  have HO : Hid (Fl y2 (calO a b l h)) := g2
  clear b4 B3 f2 g2
  cases k : calB a b l h
  case false =>
    go_wp2
    go_ret
    exact ⟨rfl, B4⟩
  obtain ⟨fa, fb, fl, fh⟩ := cal_yes la lb ll lh k
  have HK : Hid (calB a b l h = true) := k
  have FA : Hid (Fin a) := fa
  have FB : Hid (Fin b) := fb
  have FL : Hid (Fin l) := fl
  have FH : Hid (Fin h) := fh
  clear k fa fb fl fh la lb ll lh
  go_wp2_with fail
  refine (size_any a FA.out _).mono ?_
  rintro e w5 ⟨za, rfl, Sa, rfl⟩
  rename World => w4
  cases ka : (FloatKind.f64.format.order za 4651127699538968576 == some .gt)
  case true =>
    go_wp2
    go_ret
    exact ⟨rfl, B4⟩
  have Ia : Hid (In9 a) := in9_of FA.out Sa ka
  clear Sa
  go_wp2_with fail
  refine (size_any b FB.out _).mono ?_
  rintro e w5 ⟨zb, rfl, Sb, rfl⟩
  rename World => w4
  cases kb : (FloatKind.f64.format.order zb 4651127699538968576 == some .gt)
  case true =>
    go_wp2
    go_ret
    exact ⟨rfl, B4⟩
  have Ib : Hid (In9 b) := in9_of FB.out Sb kb
  clear Sb
  go_wp2_with fail
  refine (size_any l FL.out _).mono ?_
  rintro e w5 ⟨zl, rfl, Sl, rfl⟩
  rename World => w4
  cases kl : (FloatKind.f64.format.order zl 4651127699538968576 == some .gt)
  case true =>
    go_wp2
    go_ret
    exact ⟨rfl, B4⟩
  have Il : Hid (In9 l) := in9_of FL.out Sl kl
  clear Sl
  go_wp2_with fail
  refine (size_any h FH.out _).mono ?_
  rintro e w5 ⟨zh, rfl, Sh, rfl⟩
  rename World => w4
  cases kh : (FloatKind.f64.format.order zh 4651127699538968576 == some .gt)
  case true =>
    go_wp2
    go_ret
    exact ⟨rfl, B4⟩
  have Ih : Hid (In9 h) := in9_of FH.out Sh kh
  clear Sh
  obtain ⟨d, rd, fd, nd⟩ := rsub FA.out FB.out 1800 (by decide) (by have h1 := Ia.out; have h2 := Ib.out; unfold In9 at h1 h2; grind) (by have h1 := Ia.out; have h2 := Ib.out; unfold In9 at h1 h2; grind)
  have hop := fin_op (f := .sub) rfl rd
  have FD : Hid (Fin d) := fd
  have ND : Hid (Nr 1800 (rv a - rv b) (rv d)) := nd
  clear rd fd nd
  go_wp2_with fail
  refine (size_any d FD.out _).mono ?_
  rintro e w5 ⟨zd, rfl, Sd, rfl⟩
  rename World => w4
  cases kd : (FloatKind.f64.format.order zd 4591149604126578442 == some .lt)
  case true =>
    go_wp2
    go_ret
    exact ⟨rfl, B4⟩
  obtain ⟨g, o, y0, y1, eg, eo, e0, e1, A0, A1⟩ := cal_num Ia.out Ib.out Il.out Ih.out (apart_of Ia.out Ib.out FD.out ND.out Sd kd)
  have hg := HG.out
  have ho := HO.out
  unfold calG at hg
  unfold calO at ho
  rw [if_pos HK.out, eg] at hg
  rw [if_pos HK.out, eo] at ho
  have q1 := fl_is hg
  have q2 := fl_is ho
  subst q1
  subst q2
  have HG2 : Hid (Fl x2 (some x2)) := hg
  have HO2 : Hid (Fl y2 (some y2)) := ho
  have E0 : Hid (opO .add (opO .mul (some a) (some x2)) (some y2) = some y0) := e0
  have E1 : Hid (opO .add (opO .mul (some b) (some x2)) (some y2) = some y1) := e1
  have HA0 : Hid (At y0 l) := A0
  have HA1 : Hid (At y1 h) := A1
  clear eg eo e0 e1 A0 A1 hg ho Sd HG HO hop
  go_wp2_with fail
  have HR : Hid (RowF (w4.alloc (.cells #[.float .f64 a, .float .f64 b] 24)) (some ⟨w4.heap.size, 0, none⟩) 2 (fun j => if j = 0 then some a else some b)) := fun j hj => by
    match j, hj with
    | 0, _ => exact ⟨_, 0, a, rfl, by simp, by simp [go_sem], fin_fl FA.out⟩
    | 1, _ => exact ⟨_, 0, b, rfl, by simp, by simp [go_sem], fin_fl FB.out⟩
  refine (implCor_any _ 2 _ (fun j => if j = 0 then some a else some b) x2 y2 (some x2) (some y2) HG2.out HO2.out _ (by decide) HR.out).mono ?_
  rintro e w5 ⟨m, s', c', hm, rfl, ow, b5⟩
  have hm2 : m = 2 := by unfold CorV at hm; omega
  subst hm2
  obtain ⟨bb, v0, es, zb, c0, F0⟩ : ∃ bb v0, s' = some ⟨bb, 0, none⟩ ∧ bb < w5.heap.size ∧ w5.cell? ⟨bb, 0, none⟩ = some (.float .f64 v0) ∧ Fl v0 (some y0) := by
    obtain ⟨bb, x, e1, e2, e3, e4, e6, e5⟩ := ow 0 (by decide)
    exact ⟨bb, x, e1, e3, e4, by rw [show corO (fun j => if j = 0 then some a else some b) (some x2) (some y2) 0 = some y0 by unfold corO; simpa using E0.out] at e6; exact e6⟩
  obtain ⟨v1, c1, F1⟩ : ∃ v1, w5.cell? ⟨bb, 1, none⟩ = some (.float .f64 v1) ∧ Fl v1 (some y1) := by
    obtain ⟨b', x, e1, e2, e3, e4, e6, e5⟩ := ow 1 (by decide)
    rw [es] at e1
    cases e1
    exact ⟨x, e4, by rw [show corO (fun j => if j = 0 then some a else some b) (some x2) (some y2) 1 = some y1 by unfold corO; simpa using E1.out] at e6; exact e6⟩
  have t0 := fl_is F0
  have t1 := fl_is F1
  subst t0
  subst t1
  subst es
  have l4 := B4.size
  have B5 : Below w.heap.size w w5 := (B4.trans (Below.mono (below0 w4 _) l4)).trans (b5.mono (by simp; omega))
  obtain ⟨d0, rd0, fd0, nd0⟩ := rsub HA0.out.1 FL.out 1 (by decide) (by have h1 := HA0.out; unfold At at h1; grind) (by have h1 := HA0.out; unfold At at h1; grind)
  obtain ⟨d1, rd1, fd1, nd1⟩ := rsub HA1.out.1 FH.out 1 (by decide) (by have h1 := HA1.out; unfold At at h1; grind) (by have h1 := HA1.out; unfold At at h1; grind)
  have hop0 := fin_op (f := .sub) rfl rd0
  have hop1 := fin_op (f := .sub) rfl rd1
  have ND0 : Hid (Nr 1 (rv v0 - rv l) (rv d0)) := nd0
  have ND1 : Hid (Nr 1 (rv v1 - rv h) (rv d1)) := nd1
  have FD0 : Hid (Fin d0) := fd0
  have FD1 : Hid (Fin d1) := fd1
  clear b5 B4 ow rd0 rd1 fd0 fd1 nd0 nd1 F0 F1 HR hm
  go_wp2_with fail
  refine (size_any d0 FD0.out _).mono ?_
  rintro e w6 ⟨z0, rfl, S0, rfl⟩
  have k0 := near_of HA0.out Il.out ND0.out S0
  clear S0
  go_wp2_with fail
  refine (size_any d1 FD1.out _).mono ?_
  rintro e w7 ⟨z1, rfl, S1, rfl⟩
  have k1 := near_of HA1.out Ih.out ND1.out S1
  clear S1
  go_wp2
  go_ret
  exact ⟨rfl, B5⟩
theorem fnCalibrated_walk (w : World) (s : Option Addr) (n c : Nat) (hn : n ≤ 9223372036854775807) (R : Bytes w s n) :
    Calls Try.prog 3 #[.slice s n c] w fun e w' => e = .returned (.bool true) ∧ Below w.heap.size w w' := by
  by_cases h : n ≤ 1048576
  · exact calibrated_near w s n c (by omega) (R.code h)
  · exact calibrated_far w s n c (by omega)

set_option maxRecDepth 100000 in
theorem fnCalibrated_lifted (os : Os) (started : os.Started) (H : Type) (enc : TypeId × Value → H) :
    ReturnsInHanded {} Try.checked os 3 .any (Rows.fnCalibratedSpec.pre6 enc Try.prog Try.f3 Rows.fnCalibratedRow.domain false) (Rows.fnCalibratedSpec.post enc Try.prog Try.f3 false true false false) := by
  refine returnsInHanded_of_change (C := Try.checked) own started (by kernel_rfl) Try.func3
    (ChangeSpec.witness6 (enc := enc) (C := Try.checked) false ⟨#[], #[.slice none 0 0], []⟩ 8 (by kernel_rfl) (by kernel_rfl) (by kernel_rfl) (by kernel_rfl)) ?_
  intro W base args ds gs before hval0 hW hcnd _
  have hval : ∀ (j : Nat) t v, Try.f3.params[j]? = some t → args[j]? = some v → Value.okWide Try.prog W .any base t v := hval0
  have hW' := hW
  obtain ⟨p, q, hA0, hV, rfl, hfz, hnd⟩ := hW
  have hA : DataW.TrodAll enc Try.prog W 0 (fun _ => true) true Try.f3.params.toList args.toList ds p := hA0
  rw [Try.params3] at hA hval
  obtain ⟨v0, vs0, d0, ds0, p0, q0, hargs, rfl, rfl, h0, r0⟩ := trodAll_cons hA
  obtain ⟨rfl, rfl, rfl⟩ := trodAll_nil r0
  obtain rfl : args = #[v0] := by cases args; simp_all
  obtain ⟨rfl, rfl⟩ := trodVars_none hV
  have k0 := h0
  have lt0 : ∀ x ∈ p0, x.block < W.heap.size := by obtain ⟨m, hm⟩ := k0; exact DataW.trod_lt m _ _ _ hm
  obtain ⟨s0, n0, c0, rfl, m0, R0⟩ := open_code Try.underlying22 Try.underlying5 (by kernel_rfl) (hval 0 22 v0 rfl rfl) h0
  clear hA0 hval0
  refine (fnCalibrated_walk W s0 n0 c0 m0 R0).mono fun e W' ⟨he, bel⟩ => ?_
  subst he
  exact ⟨_, rfl, _, _, _, [], _, [], hW', trodAll_mk1 (shut_bool Try.underlying4 _), (trodAll_cons_mk (Below.trod laidOut (by kernel_rfl) (of_decide_eq_true (by kernel_rfl)) k0 bel lt0) trodAll_mk0), rfl, bel.frame _, fun h => by cases h⟩

theorem fnCalibrated_holds : Rows.FnCalibratedSaid :=
  OpenClaim.holds_of_wide 3 Try.f3 rfl rfl rfl rfl rfl rfl rfl ⟨rfl, rfl, rfl, rfl, rfl⟩ rfl rfl rfl rfl rfl (by kernel_rfl) Try.func3 (by kernel_rfl)
    (of_decide_eq_true (by kernel_rfl)) (by unfold Func.isWrapper; first | (rw [if_pos (by decide +kernel)]; kernel_rfl) | (rw [if_neg (by decide +kernel)]; exact ⟨rfl, rfl⟩))
    (fun os started H enc _ => fnCalibrated_lifted os started H enc)
#print axioms fnCalibrated_holds
end Go.Proofs.Ytpnhliijkepbbaa
