/-
What is proved: FnBroken: of channels that are drawn from any code what Validate says does not ask which broken number a broken channel tells; no condition.
-/
import Derived.Test.YtaeajdhddklolaaVaD
import Derived.Test.YtaeajdhddklolaaBkN
import Derived.Test.YtaeajdhddklolaaValT
import Derived.Test.YtaeajdhddklolaaValJ
import Derived.Test.YtaeajdhddklolaaClF
import Derived.Test.YtaeajdhddklolaaSamL
import Derived.Test.YtaeajdhddklolaaKnownS
import Derived.Test.YtaeajdhddklolaaOpen8
import Derived.Deep.RegionHeld3
import Derived.Deep.DeepCutAuto
import Derived.BigQuiet
namespace Go.Proofs.Ytaeajdhddklolaa
set_option maxRecDepth 40000
open Go.ChangeShapes Go.WideShapes Go.ChangeAt Go.RowKit
set_option linter.unusedVariables false
set_option linter.unusedSimpArgs false

theorem fl_sameL {x y : Nat} {o : Option Nat} (hx : Fl x o) (hy : Fl y o) : sameB x y = true := by
  rcases hx.2 with ⟨h1, e1⟩ | ⟨h1, e1⟩
  · rcases hy.2 with ⟨h2, e2⟩ | ⟨h2, e2⟩
    · rw [e1] at e2; cases e2; unfold sameB; exact beq_self_eq_true _
    · rw [e1] at e2; cases e2
  · rcases hy.2 with ⟨h2, e2⟩ | ⟨h2, e2⟩
    · rw [e1] at e2; cases e2
    · rw [same_nan h1]; exact decide_eq_true h2
theorem fl_inf : Fl 9218868437227405312 (some INF) := ⟨by decide, .inl ⟨by decide, rfl⟩⟩
theorem huge_run (w : World) : (binOp .mul 25 (.float .f64 9214871658872686752) (.float .f64 4621819117588971520)).run Try.prog w = .ok (.float .f64 9218868437227405312) w := by kernel_rfl
def toInf (V : Nat → Option Nat) (i j : Nat) : Option Nat := if j = i then some INF else V j
theorem inf_swp {V : Nat → Option Nat} {i : Nat} (h : knP (V i) = false) : Swp V (toInf V i) i := ⟨fun j hj => by unfold toInf; rw [if_neg hj], h, by unfold toInf; rw [if_pos rfl]; decide⟩
theorem neq_self (b : Bool) : (b != b) = false := by cases b <;> rfl
set_option maxHeartbeats 400000 in
theorem broken_far (w : World) (s : Option Addr) (n c : Nat) (h : (1048576 : Int) < n) :
    Calls Try.prog 3 #[.slice s n c] w fun e w' => e = .returned (.bool true) ∧ Below w.heap.size w w' := by
  go_enter Try.func3, Try.ntmps3
  go_wp2_with fail
  refine (big_yes _ _ _ _ h).mono ?_
  rintro e w1 ⟨rfl, rfl⟩
  go_wp2
  go_ret
  exact ⟨rfl, Below.refl _ _⟩
set_option maxRecDepth 20000 in
set_option maxHeartbeats 8000000 in
theorem broken_near (w : World) (s : Option Addr) (n c : Nat) (hn : (n : Int) ≤ 1048576) (HC : Hid (Code8 w s n)) :
    Calls Try.prog 3 #[.slice s n c] w fun e w' => e = .returned (.bool true) ∧ Below w.heap.size w w' := by
  have hhg := huge_run
  have sfr := store_fr
  go_enter Try.func3, Try.ntmps3
  go_wp2_with fail
  refine (big_no _ _ _ _ hn).mono ?_
  rintro e w1 ⟨rfl, rfl⟩
  rename World => w
  go_wp2_with fail
  refine (drawValidate_any HC).mono ?_
  rintro e w2 h2
  unfold VaPost at h2
  obtain ⟨t, m, cap, V, z, rfl, hm, hz, R2, B2⟩ := h2
  have HV : Hid (RowF w2 t m V) := R2
  have HB : Hid (Below w.heap.size w w2) := B2
  have fz := fl_of z hz
  obtain ⟨a, ha⟩ : ∃ a, ofW z = a := ⟨_, rfl⟩
  rw [ha] at fz
  clear R2 B2 HC ha
  go_wp2_with fail
  refine (implVal_any t m cap V z a fz w2 (by omega) HV).mono ?_
  rintro e w3 ⟨s3, c3, r3, rfl, f3, O3, B3⟩
  replace HV : Hid (RowF w3 t m V) := HV.out.below B3
  replace HB : Hid (Below w.heap.size w w3) := HB.out.trans (B3.mono HB.out.size)
  have HF : Hid (RowB w3 s3 (vaM m z) (flgB V a m)) := O3.row
  clear O3 B3
  go_wp2_with fail
  refine (specVal_any t m cap V z a fz w3 (by omega) HV).mono ?_
  rintro e w4 ⟨s4, c4, r4, rfl, f4, O4, B4⟩
  replace HV : Hid (RowF w4 t m V) := HV.out.below B4
  replace HB : Hid (Below w.heap.size w w4) := HB.out.trans (B4.mono HB.out.size)
  replace HF : Hid (RowB w4 s3 (vaM m z) (flgB V a m)) := HF.out.below B4
  clear O4 B4
  obtain ⟨G, hG⟩ : ∃ G, vaG V a m z = G := ⟨_, rfl⟩
  have HG : Hid (∀ i, knP (V i) = false → vaG (toInf V i) a m z = G ∧ vaQ (toInf V i) a m z = vaQ V a m z ∧ ∀ j, flgB (toInf V i) a m j = flgB V a m j) := fun i hi => ⟨(swp_va (inf_swp hi) a m z).1.trans hG, (swp_va (inf_swp hi) a m z).2, fun j => swp_flg (inf_swp hi) a m j⟩
  rw [hG]
  have nG : (G != G) = false := neq_self G
  have sm := fl_sameL f3 f4
  have l3 := f3.1
  have l4 := f4.1
  have HQ : Hid (Fl r3 (vaQ V a m z)) := f3
  obtain ⟨M, hM⟩ : ∃ M, vaM m z = M := ⟨_, rfl⟩
  have hM17 : M ≤ 17 := by rw [← hM]; unfold vaM; split <;> omega
  have HMM : Hid (vaM m z = M) := hM
  rw [hM] at HF ⊢
  clear hG f3 f4 hM
  go_wp2_with fail
  refine (specSame_any r3 r4 l3 l4 _).mono ?_
  rintro e w5 ⟨rfl, rfl⟩
  rw [sm]
  clear sm
  go_wp2_with fail
  rename World => wz
  go_loopw [12] (fun i wx => ∃ k : Nat, k ≤ m ∧ i = .int .i64 k ∧ Below wz.heap.size wz wx) (fun i _ => m - (intOf i).toNat)
  case atStart => exact ⟨0, by omega, rfl, Below.refl _ _⟩
  case round =>
    obtain ⟨k, hk, rfl, hX⟩ := hrel
    have HBX : Hid (Below w.heap.size w wr) := HB.out.trans (hX.mono HB.out.size)
    by_cases h1 : k < m
    case neg =>
      obtain rfl : k = m := by omega
      clear hX
      go_wp2
      go_ret
      exact ⟨rfl, HBX.out⟩
    have k1 : (k : Int) < (m : Int) := by omega
    obtain ⟨b1, o1, x1, rfl, g1, e1, f1⟩ := HV.out k h1
    have HVX : Hid (RowF wr (some ⟨b1, o1, none⟩) m V) := HV.out.below hX
    have HFX : Hid (RowB wr s3 M (flgB V a m)) := HF.out.below hX
    replace e1 := (hX.cell (p := ⟨b1, o1 + k, none⟩) g1).trans e1
    have HXX : Hid (Below wz.heap.size wz wr) := hX
    have kn := knownP_fl f1
    clear hX f1
    go_wp2_with fail
    refine (specKnown_any x1 _).mono ?_
    rintro e w6 ⟨rfl, nq, rfl⟩
    rw [kn]
    cases hk1 : knP (V k)
    case true =>
      go_wp2
      go_roundw
      case rel => exact ⟨k + 1, by omega, by go_num, HXX.out.trans ((below_drewN (Below.refl _ _) _).mono HXX.out.size)⟩
      case measure => first | (simp [intOf]; done) | (simp [intOf]; omega)
    obtain ⟨w6, hw6⟩ : ∃ z, z = wr.drewN nq := ⟨_, rfl⟩
    rw [← hw6]
    have B6 : Below wr.heap.size wr w6 := by rw [hw6]; exact below_drewN (Below.refl _ _) _
    have HV6 : Hid (RowF w6 (some ⟨b1, o1, none⟩) m V) := HVX.out.below B6
    have HF6 : Hid (RowB w6 s3 M (flgB V a m)) := HFX.out.below B6
    have HX6 : Hid (Below wz.heap.size wz w6) := HXX.out.trans (B6.mono HXX.out.size)
    have HB6 : Hid (Below w.heap.size w w6) := HBX.out.trans (B6.mono HBX.out.size)
    obtain ⟨eG, eQ, eF⟩ := HG.out k hk1
    have HEF : Hid (∀ j, flgB (toInf V k) a m j = flgB V a m j) := eF
    clear B6 hw6 hk1 kn eF HXX HBX HVX HFX
    go_upto_region 14 with (at_builtin; refine list_cloneF _ ⟨b1, o1, none⟩ m cap V (.tmp 59) (.tmp 60) (by rfl) (by rfl) (by rfl) (by rfl) rfl (by omega) HV6.out ?_; intro s7 cap7 w7 O7 B7)
    obtain ⟨g7, y7, rfl, gb7, z7, c7, -, fr7⟩ := O7 k h1
    have HR8 : Hid (RowF (w7.setCell ⟨g7, k, none⟩ (.float .f64 9218868437227405312)) (some ⟨g7, 0, none⟩) m (toInf V k)) := own_putF O7 k _ (some INF) fl_inf
    have B8 : Below w6.heap.size w6 (w7.setCell ⟨g7, k, none⟩ (.float .f64 9218868437227405312)) := B7.setCell gb7 _
    go_upto_region 15 with fail
    obtain ⟨w8, hw8⟩ : ∃ z, z = w7.setCell ⟨g7, k, none⟩ (.float .f64 9218868437227405312) := ⟨_, rfl⟩
    rw [← hw8] at HR8 B8 ⊢
    have HF8 : Hid (RowB w8 s3 M (flgB V a m)) := HF6.out.below B8
    have HX8 : Hid (Below wz.heap.size wz w8) := HX6.out.trans (B8.mono HX6.out.size)
    have HB8 : Hid (Below w.heap.size w w8) := HB6.out.trans (B8.mono HB6.out.size)
    clear hw8 B8 B7 O7 c7 fr7 z7 gb7 HF6 HX6 HB6 HV6
    go_wp2_with fail
    refine (implVal_any _ m cap7 (toInf V k) z a fz w8 (by omega) HR8).mono ?_
    rintro e w9 ⟨s9, c9, r9, rfl, f9, O9, B9⟩
    rw [HMM.out] at O9 ⊢
    rw [eG]
    rw [eQ] at f9
    have HO9 : Hid (RowB w9 s9 M (flgB (toInf V k) a m)) := O9.row
    have HF9 : Hid (RowB w9 s3 M (flgB V a m)) := HF8.out.below B9
    have HX9 : Hid (Below wz.heap.size wz w9) := HX8.out.trans (B9.mono HX8.out.size)
    have HB9 : Hid (Below w.heap.size w w9) := HB8.out.trans (B9.mono HB8.out.size)
    have l9 := f9.1
    have sm := fl_sameL f9 HQ.out
    clear O9 B9 f9 HF8 HX8 HB8 HR8 eG eQ
    go_wp2_with fail
    refine (specSame_any r9 r3 l9 l3 _).mono ?_
    rintro e wq ⟨rfl, rfl⟩
    rw [sm]
    clear sm
    go_wp2_with fail
    rename World => wy
    go_loopw [17] (fun i wx => ∃ j : Nat, j ≤ M ∧ i = .int .i64 j ∧ Below wy.heap.size wy wx) (fun i _ => M - (intOf i).toNat)
    case atStart => exact ⟨0, by omega, rfl, Below.refl _ _⟩
    case round =>
      obtain ⟨j, hj, rfl, hY⟩ := hrel
      have HXY : Hid (Below wz.heap.size wz wr) := HX9.out.trans (hY.mono HX9.out.size)
      by_cases h3 : j < M
      case neg =>
        obtain rfl : j = M := by omega
        clear hY
        go_wp2
        go_roundw
        case rel => exact ⟨k + 1, by omega, by go_num, HXY.out⟩
        case measure => first | (simp [intOf]; done) | (simp [intOf]; omega)
      have j1 : (j : Int) < (M : Int) := by omega
      obtain ⟨b2, o2, rfl, g2, e2⟩ := HF9.out j h3
      obtain ⟨b3, o3, rfl, g3, e3⟩ := HO9.out j h3
      rw [HEF.out j] at e3
      obtain ⟨fl, hfl⟩ : ∃ b, flgB V a m j = b := ⟨_, rfl⟩
      rw [hfl] at e2 e3
      replace e2 := (hY.cell (p := ⟨b2, o2 + j, none⟩) g2).trans e2
      replace e3 := (hY.cell (p := ⟨b3, o3 + j, none⟩) g3).trans e3
      have nF : (fl != fl) = false := neq_self fl
      have HYY : Hid (Below wy.heap.size wy wr) := hY
      clear hfl hY
      go_upto_region 21 with fail
      go_quiet (fail)
      go_wp2
      go_roundw
      case rel => exact ⟨j + 1, by omega, by go_num, HYY.out.trans ((below_drewN (Below.refl _ _) _).mono HYY.out.size)⟩
      case measure => first | (simp [intOf]; done) | (simp [intOf]; omega)
theorem fnBroken_walk (w : World) (s : Option Addr) (n c : Nat) (hn : n ≤ 9223372036854775807) (R : Bytes w s n) :
    Calls Try.prog 3 #[.slice s n c] w fun e w' => e = .returned (.bool true) ∧ Below w.heap.size w w' := by
  by_cases h : n ≤ 1048576
  · exact broken_near w s n c (by omega) (R.code h)
  · exact broken_far w s n c (by omega)

set_option maxRecDepth 100000 in
theorem fnBroken_lifted (os : Os) (started : os.Started) (H : Type) (enc : TypeId × Value → H) :
    ReturnsInHanded {} Try.checked os 3 .any (Rows.fnBrokenSpec.pre6 enc Try.prog Try.f3 Rows.fnBrokenRow.domain false) (Rows.fnBrokenSpec.post enc Try.prog Try.f3 false true false false) := by
  refine returnsInHanded_of_change (C := Try.checked) own started (by kernel_rfl) Try.func3
    (ChangeSpec.witness6 (enc := enc) (C := Try.checked) false ⟨#[], #[.slice none 0 0], []⟩ 8 (by kernel_rfl) (by kernel_rfl) (by kernel_rfl) (by kernel_rfl)) ?_
  intro W base args ds gs before hval0 hW hcnd _
  have hval : ∀ (j : Nat) t v, Try.f3.params[j]? = some t → args[j]? = some v → Value.okWide Try.prog W .any base t v := hval0
  have hW' := hW
  obtain ⟨p, q, hA0, hV, rfl, hfz, hnd⟩ := hW
  have hA : DataW.TrodAll enc Try.prog W 0 (fun _ => true) true Try.f3.params.toList args.toList ds p := hA0
  rw [Try.params3] at hA hval
  obtain ⟨v0, vs0, d0, ds0, p0, q0, hargs, rfl, rfl, h0, r0⟩ := trodAll_cons hA
  obtain ⟨rfl, rfl, rfl⟩ := trodAll_nil r0
  obtain rfl : args = #[v0] := by cases args; simp_all
  obtain ⟨rfl, rfl⟩ := trodVars_none hV
  have k0 := h0
  have lt0 : ∀ x ∈ p0, x.block < W.heap.size := by obtain ⟨m, hm⟩ := k0; exact DataW.trod_lt m _ _ _ hm
  obtain ⟨s0, n0, c0, rfl, m0, R0⟩ := open_code Try.underlying22 Try.underlying5 (by kernel_rfl) (hval 0 22 v0 rfl rfl) h0
  clear hA0 hval0
  refine (fnBroken_walk W s0 n0 c0 m0 R0).mono fun e W' ⟨he, bel⟩ => ?_
  subst he
  exact ⟨_, rfl, _, _, _, [], _, [], hW', trodAll_mk1 (shut_bool Try.underlying4 _), (trodAll_cons_mk (Below.trod laidOut (by kernel_rfl) (of_decide_eq_true (by kernel_rfl)) k0 bel lt0) trodAll_mk0), rfl, bel.frame _, fun h => by cases h⟩

theorem fnBroken_holds : Rows.FnBrokenSaid :=
  OpenClaim.holds_of_wide 3 Try.f3 rfl rfl rfl rfl rfl rfl rfl ⟨rfl, rfl, rfl, rfl, rfl⟩ rfl rfl rfl rfl rfl (by kernel_rfl) Try.func3 (by kernel_rfl)
    (of_decide_eq_true (by kernel_rfl)) (by unfold Func.isWrapper; first | (rw [if_pos (by decide +kernel)]; kernel_rfl) | (rw [if_neg (by decide +kernel)]; exact ⟨rfl, rfl⟩))
    (fun os started H enc _ => fnBroken_lifted os started H enc)
#print axioms fnBroken_holds
end Go.Proofs.Ytaeajdhddklolaa
