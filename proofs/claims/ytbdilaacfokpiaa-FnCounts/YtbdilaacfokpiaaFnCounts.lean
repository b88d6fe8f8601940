/-
What is proved: the count that a sensor has of a number, both drawn from every code, reads at least that number, the one ahead of it (if there is one) less, and what a count reads has a count that is not beyond it; no condition.
-/
import Derived.Test.YtbdilaacfokpiaaCnD
import Derived.Test.YtbdilaacfokpiaaCnS
import Derived.Test.YtbdilaacfokpiaaCnI
import Derived.Test.YtbdilaacfokpiaaOpen8
import Derived.Deep.DeepCutAuto
namespace Go.Proofs.Ytbdilaacfokpiaa
set_option maxRecDepth 40000
open Go.ChangeShapes Go.WideShapes Go.ChangeAt Go.RowKit
set_option linter.unusedVariables false
set_option linter.unusedSimpArgs false

set_option maxHeartbeats 400000 in
theorem counts_far (w : World) (s : Option Addr) (n c : Nat) (h : (1048576 : Int) < n) :
    Calls Try.prog 5 #[.slice s n c] w fun e w' => e = .returned (.bool true) ∧ Below w.heap.size w w' := by
  go_enter Try.func5, Try.ntmps5
  go_wp2_with fail
  refine (big_yes _ _ _ _ h).mono ?_
  rintro e w1 ⟨rfl, rfl⟩
  go_wp2
  go_ret
  exact ⟨rfl, Below.refl _ _⟩
theorem cnt_back {a b : Nat} {X : Option Nat} {c d : Int} (c0 : 40 ≤ c) (c1 : c ≤ 4055) (h : rchB a b X c = true) (hd : CntV a b (readO a b c) d) : 40 ≤ d ∧ d ≤ c := by
  have hs : rchB a b (readO a b c) c = true := by
    unfold rchB at *
    cases e : readO a b c with
    | none => rw [e] at h; cases h
    | some r => exact decide_eq_true (Int.le_refl _)
  rcases hd with ⟨-, q⟩ | ⟨d0, d1, -, q⟩
  · rw [q c c0 c1] at hs; cases hs
  · refine ⟨d0, ?_⟩
    rcases Int.lt_or_le c d with z | z
    · rw [q c c0 z] at hs; cases hs
    · exact z
set_option maxRecDepth 20000 in
set_option maxHeartbeats 8000000 in
theorem counts_near (w : World) (s : Option Addr) (n c : Nat) (h : (n : Int) ≤ 1048576) (HC : Hid (Code8 w s n)) :
    Calls Try.prog 5 #[.slice s n c] w fun e w' => e = .returned (.bool true) ∧ Below w.heap.size w w' := by
  go_enter Try.func5, Try.ntmps5
  go_wp2_with fail
  refine (big_no _ _ _ _ h).mono ?_
  rintro e w1 ⟨rfl, rfl⟩
  have HB : Hid (Below w1.heap.size w1 w1) := Below.refl _ _
  have hst := store_fp
  go_wp2_with fail
  refine (drawCountOf_any HC).mono ?_
  rintro e wv1 ⟨a, b, x, rfl, la, lb, lx, h_⟩
  replace HB : Hid (Below w1.heap.size w1 wv1) := HB.out.trans (h_.mono HB.out.size)
  clear h_
  go_upto_region 4 with fail
  obtain ⟨wv2, hw_⟩ : ∃ x_, x_ = wv1.alloc (.cells #[.float .f64 a, .float .f64 b] 26) := ⟨_, rfl⟩
  rw [← hw_]
  have Hf : Hid (Blk wv2 wv1.heap.size [.float .f64 a, .float .f64 b]) := by show Blk _ _ _; rw [hw_]; exact Blk.new wv1 #[.float .f64 a, .float .f64 b] _
  have bl_ : Below wv1.heap.size wv1 wv2 := by rw [hw_]; exact below0 _ _
  clear hw_
  replace HB : Hid (Below w1.heap.size w1 wv2) := HB.out.trans (bl_.mono HB.out.size)
  obtain ⟨gf, hg_⟩ : ∃ g, g = wv1.heap.size := ⟨_, rfl⟩
  rw [← hg_] at Hf ⊢
  clear hg_ bl_
  obtain ⟨X, hX⟩ : ∃ X, Fl x X := ⟨_, fl_of x lx⟩
  have HX : Hid (Fl x X) := hX
  obtain ⟨cn, hc⟩ := cnt_some a b X
  have IC : Hid (∀ w, Calls Try.prog 8 #[.agg #[.float .f64 a, .float .f64 b], .float .f64 x] w fun e w' => e = .returned (.int .i64 cn) ∧ Below w.heap.size w w') := fun w => (implCountOf_any a b x la lb lx _ hX w).mono fun e w' ⟨c, h1, h2, h3⟩ => ⟨by rw [h2, hc.one h1], h3⟩
  have SC : Hid (∀ w, Calls Try.prog 6 #[.agg #[.float .f64 a, .float .f64 b], .float .f64 x] w fun e w' => e = .returned (.int .i64 cn) ∧ Below w.heap.size w w') := fun w => (specCountOf_any a b x la lb _ hX w).mono fun e w' ⟨c, h1, h2, h3⟩ => ⟨by rw [h2, hc.one h1], h3⟩
  have RC : Hid (∀ (c : Int) (w : World), Calls Try.prog 10 #[.agg #[.float .f64 a, .float .f64 b], .int .i64 c] w fun e w' => ∃ r, e = .returned (.float .f64 r) ∧ Fl r (readO a b c) ∧ Below w.heap.size w w') := fun c w => implRead_any a b la lb c w
  have CC : Hid (∀ (y : Nat) (Y : Option Nat) (w : World), Fl y Y → Calls Try.prog 8 #[.agg #[.float .f64 a, .float .f64 b], .float .f64 y] w fun e w' => ∃ c, CntV a b Y c ∧ e = .returned (.int .i64 c) ∧ Below w.heap.size w w') := fun y Y w hy => implCountOf_any a b y la lb hy.1 Y hy w
  clear hX la lb lx
  obtain ⟨z_f, f_f, c_f⟩ := Hf.out
  have fc0 : wv2.cell? ⟨gf, 0, none⟩ = some (.float .f64 a) := c_f 0 _ rfl
  have fc1 : wv2.cell? ⟨gf, 1, none⟩ = some (.float .f64 b) := c_f 1 _ rfl
  clear f_f c_f
  go_wp2_with fail
  refine (IC.out _).mono ?_
  rintro e wv3 ⟨rfl, h_⟩
  replace Hf : Hid (Blk wv3 gf [.float .f64 a, .float .f64 b]) := Hf.out.below h_
  replace HB : Hid (Below w1.heap.size w1 wv3) := HB.out.trans (h_.mono HB.out.size)
  clear h_
  clear fc0 fc1 z_f
  obtain ⟨z_f, f_f, c_f⟩ := Hf.out
  have fc0 : wv3.cell? ⟨gf, 0, none⟩ = some (.float .f64 a) := c_f 0 _ rfl
  have fc1 : wv3.cell? ⟨gf, 1, none⟩ = some (.float .f64 b) := c_f 1 _ rfl
  clear f_f c_f
  go_wp2_with fail
  refine (SC.out _).mono ?_
  rintro e wv4 ⟨rfl, h_⟩
  replace Hf : Hid (Blk wv4 gf [.float .f64 a, .float .f64 b]) := Hf.out.below h_
  replace HB : Hid (Below w1.heap.size w1 wv4) := HB.out.trans (h_.mono HB.out.size)
  clear h_
  clear fc0 fc1 z_f
  have e1 : (cn != cn) = false := by simp
  clear IC SC
  rcases hc with ⟨rfl, -⟩ | ⟨c0, c1, hr, hn⟩
  · skip
    have BF := HB.out
    have sBF := BF.size
    go_wp2
    go_ret
    exact ⟨rfl, (by repeat (first | with_reducible exact Below.refl _ _ | with_reducible exact BF | with_reducible refine Below.setCell ?_ (by first | omega | (simp; done) | (simp; omega)) _ | with_reducible refine bDrewN ?_ _ | with_reducible refine Below.drew ?_ | with_reducible refine Below.alloc ?_ (by first | omega | (simp; done) | (simp; omega)) _))⟩
  · skip
    have HRC : Hid (rchB a b X cn = true) := hr
    have HN : Hid (∀ k, 40 ≤ k → k < cn → rchB a b X k = false) := hn
    clear hr hn
    have b0 : decide (cn < 0) = false := decide_eq_false (by omega)
    obtain ⟨z_f, f_f, c_f⟩ := Hf.out
    have fc0 : wv4.cell? ⟨gf, 0, none⟩ = some (.float .f64 a) := c_f 0 _ rfl
    have fc1 : wv4.cell? ⟨gf, 1, none⟩ = some (.float .f64 b) := c_f 1 _ rfl
    clear f_f c_f
    go_wp2_with fail
    refine (RC.out cn _).mono ?_
    rintro e wv5 ⟨y, rfl, fy, h_⟩
    replace Hf : Hid (Blk wv5 gf [.float .f64 a, .float .f64 b]) := Hf.out.below h_
    replace HB : Hid (Below w1.heap.size w1 wv5) := HB.out.trans (h_.mono HB.out.size)
    clear h_
    clear fc0 fc1 z_f
    have HY : Hid (Fl y (readO a b cn)) := fy
    clear fy
    have g1 : (FloatKind.f64.format.order y x == some .gt || FloatKind.f64.format.order y x == some .eq) = true := by rw [ge_is HY.out HX.out]; exact HRC.out
    by_cases q : cn = 40
    case pos =>
      have q2 : decide (40 < cn) = false := decide_eq_false (by omega)
      obtain ⟨z_f, f_f, c_f⟩ := Hf.out
      have fc0 : wv5.cell? ⟨gf, 0, none⟩ = some (.float .f64 a) := c_f 0 _ rfl
      have fc1 : wv5.cell? ⟨gf, 1, none⟩ = some (.float .f64 b) := c_f 1 _ rfl
      clear f_f c_f
      go_wp2_with fail
      refine (CC.out y _ _ HY.out).mono ?_
      rintro e wv6 ⟨dd, hd, rfl, h_⟩
      obtain ⟨d0, d1⟩ := cnt_back c0 c1 HRC.out hd
      clear hd
      have d2 : dd ≤ 40 := by omega
      clear fc0 fc1 z_f
      replace Hf : Hid (Blk wv6 gf [.float .f64 a, .float .f64 b]) := Hf.out.below h_
      replace HB : Hid (Below w1.heap.size w1 wv6) := HB.out.trans (h_.mono HB.out.size)
      clear h_
      have BF := HB.out
      have sBF := BF.size
      go_wp2
      go_ret
      exact ⟨rfl, (by repeat (first | with_reducible exact Below.refl _ _ | with_reducible exact BF | with_reducible refine Below.setCell ?_ (by first | omega | (simp; done) | (simp; omega)) _ | with_reducible refine bDrewN ?_ _ | with_reducible refine Below.drew ?_ | with_reducible refine Below.alloc ?_ (by first | omega | (simp; done) | (simp; omega)) _))⟩
    case neg =>
      have q2 : decide (40 < cn) = true := decide_eq_true (by omega)
      have wc : IntKind.i64.wrap (cn - 1) = cn - 1 := by rw [IntKind.wrap_i64]; omega
      obtain ⟨z_f, f_f, c_f⟩ := Hf.out
      have fc0 : wv5.cell? ⟨gf, 0, none⟩ = some (.float .f64 a) := c_f 0 _ rfl
      have fc1 : wv5.cell? ⟨gf, 1, none⟩ = some (.float .f64 b) := c_f 1 _ rfl
      clear f_f c_f
      go_wp2_with fail
      refine (RC.out (cn - 1) _).mono ?_
      rintro e wv6 ⟨z, rfl, fz, h_⟩
      replace Hf : Hid (Blk wv6 gf [.float .f64 a, .float .f64 b]) := Hf.out.below h_
      replace HB : Hid (Below w1.heap.size w1 wv6) := HB.out.trans (h_.mono HB.out.size)
      clear h_
      clear fc0 fc1 z_f
      have g2 : (FloatKind.f64.format.order z x == some .gt || FloatKind.f64.format.order z x == some .eq) = false := by rw [ge_is fz HX.out]; exact HN.out (cn - 1) (by omega) (by omega)
      clear fz
      obtain ⟨z_f, f_f, c_f⟩ := Hf.out
      have fc0 : wv6.cell? ⟨gf, 0, none⟩ = some (.float .f64 a) := c_f 0 _ rfl
      have fc1 : wv6.cell? ⟨gf, 1, none⟩ = some (.float .f64 b) := c_f 1 _ rfl
      clear f_f c_f
      go_wp2_with fail
      refine (CC.out y _ _ HY.out).mono ?_
      rintro e wv7 ⟨dd, hd, rfl, h_⟩
      obtain ⟨d0, d1⟩ := cnt_back c0 c1 HRC.out hd
      clear hd
      clear fc0 fc1 z_f
      replace Hf : Hid (Blk wv7 gf [.float .f64 a, .float .f64 b]) := Hf.out.below h_
      replace HB : Hid (Below w1.heap.size w1 wv7) := HB.out.trans (h_.mono HB.out.size)
      clear h_
      have BF := HB.out
      have sBF := BF.size
      go_wp2
      go_ret
      exact ⟨rfl, (by repeat (first | with_reducible exact Below.refl _ _ | with_reducible exact BF | with_reducible refine Below.setCell ?_ (by first | omega | (simp; done) | (simp; omega)) _ | with_reducible refine bDrewN ?_ _ | with_reducible refine Below.drew ?_ | with_reducible refine Below.alloc ?_ (by first | omega | (simp; done) | (simp; omega)) _))⟩
theorem fnCounts_walk (w : World) (s : Option Addr) (n c : Nat) (hn : n ≤ 9223372036854775807) (R : Bytes w s n) :
    Calls Try.prog 5 #[.slice s n c] w fun e w' => e = .returned (.bool true) ∧ Below w.heap.size w w' := by
  by_cases h : n ≤ 1048576
  · exact counts_near w s n c (by omega) (R.code h)
  · exact counts_far w s n c (by omega)

set_option maxRecDepth 100000 in
theorem fnCounts_lifted (os : Os) (started : os.Started) (H : Type) (enc : TypeId × Value → H) :
    ReturnsInHanded {} Try.checked os 5 .any (Rows.fnCountsSpec.pre6 enc Try.prog Try.f5 Rows.fnCountsRow.domain false) (Rows.fnCountsSpec.post enc Try.prog Try.f5 false true false false) := by
  refine returnsInHanded_of_change (C := Try.checked) own started (by kernel_rfl) Try.func5
    (ChangeSpec.witness6 (enc := enc) (C := Try.checked) false ⟨#[], #[.slice none 0 0], []⟩ 8 (by kernel_rfl) (by kernel_rfl) (by kernel_rfl) (by kernel_rfl)) ?_
  intro W base args ds gs before hval0 hW hcnd _
  have hval : ∀ (j : Nat) t v, Try.f5.params[j]? = some t → args[j]? = some v → Value.okWide Try.prog W .any base t v := hval0
  have hW' := hW
  obtain ⟨p, q, hA0, hV, rfl, hfz, hnd⟩ := hW
  have hA : DataW.TrodAll enc Try.prog W 0 (fun _ => true) true Try.f5.params.toList args.toList ds p := hA0
  rw [Try.params5] at hA hval
  obtain ⟨v0, vs0, d0, ds0, p0, q0, hargs, rfl, rfl, h0, r0⟩ := trodAll_cons hA
  obtain ⟨rfl, rfl, rfl⟩ := trodAll_nil r0
  obtain rfl : args = #[v0] := by cases args; simp_all
  obtain ⟨rfl, rfl⟩ := trodVars_none hV
  have k0 := h0
  have lt0 : ∀ x ∈ p0, x.block < W.heap.size := by obtain ⟨m, hm⟩ := k0; exact DataW.trod_lt m _ _ _ hm
  obtain ⟨s0, n0, c0, rfl, m0, R0⟩ := open_code Try.underlying32 Try.underlying5 (by kernel_rfl) (hval 0 32 v0 rfl rfl) h0
  clear hA0 hval0
  refine (fnCounts_walk W s0 n0 c0 m0 R0).mono fun e W' ⟨he, bel⟩ => ?_
  subst he
  exact ⟨_, rfl, _, _, _, [], _, [], hW', trodAll_mk1 (shut_bool Try.underlying4 _), (trodAll_cons_mk (Below.trod laidOut (by kernel_rfl) (of_decide_eq_true (by kernel_rfl)) k0 bel lt0) trodAll_mk0), rfl, bel.frame _, fun h => by cases h⟩

theorem fnCounts_holds : Rows.FnCountsSaid :=
  OpenClaim.holds_of_wide 5 Try.f5 rfl rfl rfl rfl rfl rfl rfl ⟨rfl, rfl, rfl, rfl, rfl⟩ rfl rfl rfl rfl rfl (by kernel_rfl) Try.func5 (by kernel_rfl)
    (of_decide_eq_true (by kernel_rfl)) (by unfold Func.isWrapper; first | (rw [if_pos (by decide +kernel)]; kernel_rfl) | (rw [if_neg (by decide +kernel)]; exact ⟨rfl, rfl⟩))
    (fun os started H enc _ => fnCounts_lifted os started H enc)
#print axioms fnCounts_holds
end Go.Proofs.Ytbdilaacfokpiaa
