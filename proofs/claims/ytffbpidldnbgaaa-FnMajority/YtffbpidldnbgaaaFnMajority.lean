/-
What is proved: FnMajority: of readings that are drawn what a majority says lies, to a millionth, between the least and the greatest of those that are told to be friends, which are more than half; where there is no majority it is a NaN; no condition.
-/
import Derived.Test.YtffbpidldnbgaaaMjN
import Derived.Test.YtffbpidldnbgaaaVaD
import Derived.Test.YtffbpidldnbgaaaValJ
import Derived.Test.YtffbpidldnbgaaaValT
import Derived.Test.YtffbpidldnbgaaaOpen8
namespace Go.Proofs.Ytffbpidldnbgaaa
set_option maxRecDepth 40000
open Go.ChangeShapes Go.WideShapes Go.ChangeAt Go.RowKit
set_option linter.unusedVariables false
set_option linter.unusedSimpArgs false

set_option maxHeartbeats 400000 in
theorem majority_far (w : World) (s : Option Addr) (n c : Nat) (h : (1048576 : Int) < n) :
    Calls Try.prog 3 #[.slice s n c] w fun e w' => e = .returned (.bool true) ∧ Below w.heap.size w w' := by
  go_enter Try.func3, Try.ntmps3
  go_wp2_with fail
  refine (big_yes _ _ _ _ h).mono ?_
  rintro e w1 ⟨rfl, rfl⟩
  go_wp2
  go_ret
  exact ⟨rfl, Below.refl _ _⟩
/-- How many friends there were, the least and the greatest of them. -/
def MjS (V : Nat → Option Nat) (p : Nat → Bool) (k : Nat) (lo hi : Nat) : Prop := (cnt p k = 0 ∧ ∀ j, j < k → p j = false) ∨ (0 < cnt p k ∧ Fin lo ∧ Fin hi ∧ -1000000 ≤ rv lo ∧ rv lo ≤ 1000000 ∧ -1000000 ≤ rv hi ∧ rv hi ≤ 1000000 ∧ ∀ j, j < k → p j = true → Frd (rv lo) (rv hi) (V j))
theorem MjS.start (V : Nat → Option Nat) (p : Nat → Bool) : MjS V p 0 0 0 := Or.inl ⟨rfl, fun j hj => absurd hj (Nat.not_lt_zero j)⟩
theorem MjS.no {V : Nat → Option Nat} {p : Nat → Bool} {k lo hi : Nat} (h : MjS V p k lo hi) (e : p k = false) : MjS V p (k + 1) lo hi := by
  unfold MjS
  rw [cnt_no e]
  rcases h with ⟨h1, h2⟩ | ⟨h1, h2, h3, h4, h5, h6, h7, h8⟩
  · refine Or.inl ⟨h1, fun j hj => ?_⟩
    by_cases q : j = k
    · rw [q]; exact e
    · exact h2 j (by omega)
  · refine Or.inr ⟨h1, h2, h3, h4, h5, h6, h7, fun j hj hp => ?_⟩
    by_cases q : j = k
    · rw [q, e] at hp; cases hp
    · exact h8 j (by omega) hp
theorem Frd.wide {lo hi lo' hi' : Rat} {o : Option Nat} (h : Frd lo hi o) (h1 : lo' ≤ lo) (h2 : hi ≤ hi') : Frd lo' hi' o := by
  obtain ⟨y, e, f, a, b, c, d⟩ := h
  exact ⟨y, e, f, a, b, by grind, by grind⟩
theorem MjS.first {V : Nat → Option Nat} {p : Nat → Bool} {k lo hi y : Nat} (h : MjS V p k lo hi) (e : p k = true) (hc : cnt p k = 0) (hy : V k = some y) (fy : Fin y) (y1 : -1000000 ≤ rv y) (y2 : rv y ≤ 1000000) : MjS V p (k + 1) y y := by
  unfold MjS
  rw [cnt_yes e]
  rcases h with ⟨h1, h2⟩ | ⟨h1, _⟩
  · refine Or.inr ⟨by omega, fy, fy, y1, y2, y1, y2, fun j hj hp => ?_⟩
    by_cases q : j = k
    · rw [q]; exact ⟨y, hy, fy, y1, y2, by grind, by grind⟩
    · rw [h2 j (by omega)] at hp; cases hp
  · omega
theorem MjS.more {V : Nat → Option Nat} {p : Nat → Bool} {k lo hi y : Nat} (h : MjS V p k lo hi) (e : p k = true) (hc : cnt p k ≠ 0) (hy : V k = some y) (fy : Fin y) (y1 : -1000000 ≤ rv y) (y2 : rv y ≤ 1000000) : MjS V p (k + 1) (if (FloatKind.f64.format.order y lo == some .lt) = true then y else lo) (if (FloatKind.f64.format.order y hi == some .gt) = true then y else hi) := by
  unfold MjS
  rw [cnt_yes e]
  rcases h with ⟨h1, h2⟩ | ⟨h1, h2, h3, h4, h5, h6, h7, h8⟩
  · omega
  rw [lt_rv fy h2, gt_rv fy h3]
  obtain ⟨lo', hlo⟩ : ∃ z, (if decide (rv y < rv lo) = true then y else lo) = z := ⟨_, rfl⟩
  obtain ⟨hi', hhi⟩ : ∃ z, (if decide (rv hi < rv y) = true then y else hi) = z := ⟨_, rfl⟩
  rw [hlo, hhi]
  have a1 : Fin lo' ∧ rv lo' ≤ rv lo ∧ rv lo' ≤ rv y ∧ -1000000 ≤ rv lo' ∧ rv lo' ≤ 1000000 := by
    by_cases q : rv y < rv lo
    · rw [decide_eq_true q, if_pos rfl] at hlo
      subst hlo
      exact ⟨fy, by grind, by grind, y1, y2⟩
    · rw [decide_eq_false q, if_neg (by simp)] at hlo
      subst hlo
      exact ⟨h2, by grind, by grind, h4, h5⟩
  have a2 : Fin hi' ∧ rv hi ≤ rv hi' ∧ rv y ≤ rv hi' ∧ -1000000 ≤ rv hi' ∧ rv hi' ≤ 1000000 := by
    by_cases q : rv hi < rv y
    · rw [decide_eq_true q, if_pos rfl] at hhi
      subst hhi
      exact ⟨fy, by grind, by grind, y1, y2⟩
    · rw [decide_eq_false q, if_neg (by simp)] at hhi
      subst hhi
      exact ⟨h3, by grind, by grind, h6, h7⟩
  refine Or.inr ⟨by omega, a1.1, a2.1, a1.2.2.2.1, a1.2.2.2.2, a2.2.2.2.1, a2.2.2.2.2, fun j hj hp => ?_⟩
  by_cases q : j = k
  · rw [q]; exact ⟨y, hy, fy, y1, y2, a1.2.2.1, a2.2.2.1⟩
  · exact (h8 j (by omega) hp).wide a1.2.1 a2.2.1
theorem frd_known {V : Nat → Option Nat} {a : Option Nat} {n j : Nat} (g : goodB V a n = true) (h : flgB V a n j = true) : knP (V j) = true := by
  unfold flgB at h
  rw [if_pos g] at h
  unfold nbB at h
  simp only [Bool.and_eq_true] at h
  exact h.2.1
theorem good_cnt {V : Nat → Option Nat} {a : Option Nat} {n : Nat} (g : goodB V a n = true) : cnt (flgB V a n) n = frN V a n (bstN V a n n) ∧ n < 2 * frN V a n (bstN V a n n) := by
  have e : flgB V a n = nbB V a (bstN V a n n) := by
    funext j
    unfold flgB
    rw [if_pos g]
  rw [e]
  refine ⟨rfl, ?_⟩
  unfold goodB at g
  exact of_decide_eq_true g
set_option maxRecDepth 20000 in
set_option maxHeartbeats 16000000 in
theorem majority_near (w : World) (s : Option Addr) (n c : Nat) (hn : (n : Int) ≤ 1048576) (HC : Hid (Code8 w s n)) :
    Calls Try.prog 3 #[.slice s n c] w fun e w' => e = .returned (.bool true) ∧ Below w.heap.size w w' := by
  go_enter Try.func3, Try.ntmps3
  go_wp2_with fail
  refine (big_no _ _ _ _ hn).mono ?_
  rintro e w1 ⟨rfl, rfl⟩
  rename World => w
  go_wp2_with fail
  refine (drawValidate_any HC).mono ?_
  rintro e w2 h2
  unfold VaPost at h2
  obtain ⟨t, m, cap, V, z, rfl, hm, hz, R2, B2⟩ := h2
  have HV : Hid (RowF w2 t m V) := R2
  have HB : Hid (Below w.heap.size w w2) := B2
  have fz := fl_of z hz
  obtain ⟨a, ha⟩ : ∃ a, ofW z = a := ⟨_, rfl⟩
  rw [ha] at fz
  clear R2 B2 HC ha
  go_wp2_with fail
  refine (specVal_any t m cap V z a fz w2 (by omega) HV).mono ?_
  rintro e w4 ⟨s4, c4, r4, rfl, -, -, B4⟩
  replace HV : Hid (RowF w4 t m V) := HV.out.below B4
  replace HB : Hid (Below w.heap.size w w4) := HB.out.trans (B4.mono HB.out.size)
  clear B4
  go_wp2_with fail
  refine (implVal_any t m cap V z a fz w4 (by omega) HV).mono ?_
  rintro e w3 ⟨s3, c3, r3, rfl, f3, O3, B3⟩
  replace HV : Hid (RowF w3 t m V) := HV.out.below B3
  replace HB : Hid (Below w.heap.size w w3) := HB.out.trans (B3.mono HB.out.size)
  have HF : Hid (RowB w3 s3 (vaM m z) (flgB V a m)) := O3.row
  have HQ : Hid (Fl r3 (vaQ V a m z)) := f3
  clear O3 B3 f3
  cases G : vaG V a m z
  case false =>
    have q0 : vaQ V a m z = none := by unfold vaQ; rw [if_neg (by rw [G]; simp)]
    have q1 : FloatKind.f64.format.order r3 r3 = none := by
      have h := HQ.out
      rw [q0] at h
      rcases h.2 with ⟨_, e⟩ | ⟨q, _⟩
      · cases e
      · exact order_nan_l q
    clear q0 HQ G
    go_wp2
    go_ret
    exact ⟨rfl, HB.out⟩
  obtain ⟨vb, gd⟩ : vaB m z = true ∧ goodB V a m = true := by
    unfold vaG at G
    simpa using G
  have hM : vaM m z = m := (va_yes V a vb).1
  have hQ : vaQ V a m z = opO .quo (sumL (thL V (flgB V a m) m)) (some (itf (frN V a m (bstN V a m m)))) := by rw [(va_yes V a vb).2.2, if_pos gd]
  obtain ⟨gc, g2⟩ := good_cnt gd
  have m16 : m ≤ 16 := by
    unfold vaB at vb
    simp only [Bool.and_eq_true, decide_eq_true_iff] at vb
    exact vb.1.2
  rw [hM] at HF ⊢
  rw [hQ, ← gc] at HQ
  rw [← gc] at g2
  have HG : Hid (goodB V a m = true) := gd
  have HC2 : Hid (m < 2 * cnt (flgB V a m) m) := g2
  clear vb gd hM hQ gc g2 G
  obtain ⟨p, hp⟩ : ∃ p, flgB V a m = p := ⟨_, rfl⟩
  have HKN : Hid (∀ j, p j = true → knP (V j) = true) := fun j h => frd_known HG.out (by rw [hp]; exact h)
  rw [hp] at HF HQ HC2
  clear hp HG fz hz
  go_wp2_with fail
  go_loopw [11, 12, 13, 14] (fun v lo hi i wr => ∃ (k lw hw : Nat), k ≤ m ∧ i = .int .i64 k ∧ v = .int .i64 (cnt p k) ∧ lo = .float .f64 lw ∧ hi = .float .f64 hw ∧ Hid (MjS V p k lw hw) ∧ Hid (Below w3.heap.size w3 wr)) (fun _ _ _ i _ => m - (intOf i).toNat)
  case atStart => exact ⟨0, 0, 0, Nat.zero_le _, rfl, rfl, rfl, rfl, MjS.start V p, Below.refl _ _⟩
  case round =>
    obtain ⟨k, lw, hw, hk, rfl, rfl, rfl, rfl, HS, HW⟩ := hrel
    have hck := cnt_le p k
    by_cases h1 : k < m
    case pos =>
      obtain ⟨fb, fo, rfl, zf, cf⟩ := HF.out k h1
      replace cf := (HW.out.cell (p := ⟨fb, fo + k, none⟩) zf).trans cf
      have k1 : (k : Int) < (m : Int) := by omega
      cases pk : p k
      case false =>
        rw [pk] at cf
        have HS2 : Hid (MjS V p (k + 1) lw hw) := HS.out.no pk
        have HC3 : Hid (cnt p (k + 1) = cnt p k) := cnt_no pk
        go_wp2
        go_roundw
        case rel => exact ⟨k + 1, lw, hw, by omega, by go_num, by rw [HC3.out], rfl, rfl, HS2, HW⟩
        case measure => first | (simp [intOf]; done) | (simp [intOf]; omega)
      rw [pk] at cf
      obtain ⟨vb, vo, y, rfl, zv, cv, fy⟩ := HV.out k h1
      replace cv := (HW.out.cell (p := ⟨vb, vo + k, none⟩) zv).trans cv
      have zv2 : vb < wr.heap.size := Nat.lt_of_lt_of_le zv HW.out.size
      have kn := HKN.out k pk
      obtain ⟨y', hy'⟩ : ∃ y', V k = some y' := by
        cases q : V k with
        | none => rw [q] at kn; cases kn
        | some y' => exact ⟨y', rfl⟩
      rw [hy'] at fy kn
      have ey := fl_is fy
      subst ey
      have fin : Fin y := known_fin fy.1 kn
      have kb : knownB y = true := decide_eq_true fin.2
      have HY : Hid (V k = some y) := hy'
      have FY : Hid (Fin y) := fin
      have HCY : Hid (cnt p (k + 1) = cnt p k + 1) := cnt_yes pk
      have HPK : Hid (p k = true) := pk
      clear fy kn fin hy' zf zv pk
      go_wp2_with fail
      refine (specKnown_any _ _).mono ?_
      rintro e w5 ⟨rfl, n5, h5⟩
      have b5 : Below wr.heap.size wr w5 := by rw [h5]; exact (by repeat (first | with_reducible exact Below.refl _ _ | with_reducible refine Below.setCell ?_ (by first | omega | (simp; done) | (simp; omega)) _ | with_reducible refine bDrewN ?_ _ | with_reducible refine Below.drew ?_ | with_reducible refine Below.alloc ?_ (by first | omega | (simp; done) | (simp; omega)) _))
      replace cv := (b5.cell (p := ⟨vb, vo + k, none⟩) zv2).trans cv
      replace HW : Hid (Below w3.heap.size w3 w5) := HW.out.trans (b5.mono HW.out.size)
      rw [kb]
      clear kb h5 b5 cf
      go_wp2_with fail
      refine (size_any y FY.out _).mono ?_
      rintro e w6 ⟨zy, rfl, Sy, rfl⟩
      cases ky : (FloatKind.f64.format.order zy 4696837146684686336 == some .gt)
      case true =>
        go_wp2
        go_ret
        exact ⟨rfl, HB.out.trans (HW.out.mono HB.out.size)⟩
      obtain ⟨y1, y2⟩ := small_of FY.out Sy ky
      have HY1 : Hid (-1000000 ≤ rv y ∧ rv y ≤ 1000000) := ⟨y1, y2⟩
      clear Sy y1 y2
      by_cases c0 : cnt p k = 0
      case pos =>
        have HN : Hid (MjS V p (k + 1) y y) := HS.out.first HPK.out c0 HY.out FY.out HY1.out.1 HY1.out.2
        have c0' : ((cnt p k : Int) == 0) = true := by simp [c0]
        have HCZ : Hid (cnt p k = 0) := c0
        clear c0 HS
        go_wp2
        go_roundw
        case rel => exact ⟨k + 1, y, y, by omega, by go_num, by rw [HCY.out]; simp, rfl, rfl, HN, HW⟩
        case measure => first | (simp [intOf]; done) | (simp [intOf]; omega)
      have HN : Hid _ := HS.out.more HPK.out c0 HY.out FY.out HY1.out.1 HY1.out.2
      have c0' : ((cnt p k : Int) == 0) = false := by simp [c0]
      clear c0 HS
      cases kl : (FloatKind.f64.format.order y lw == some .lt) <;> cases kh : (FloatKind.f64.format.order y hw == some .gt)
      all_goals
        rw [kl, kh] at HN
        go_wp2
        go_roundw
        case rel => exact ⟨k + 1, _, _, by omega, by go_num, by rw [HCY.out]; simp, rfl, rfl, HN, HW⟩
        case measure => first | (simp [intOf]; done) | (simp [intOf]; omega)
    obtain rfl : k = m := by omega
    have c1 := HC2.out
    have hs := HS.out
    unfold MjS at hs
    rcases hs with ⟨h2, -⟩ | ⟨h2, fl, fh, l1, l2, h3, h4, h5⟩
    · omega
    obtain ⟨x, ex, fx, x1, x2⟩ := mean_num m16 h2 h5
    have hq := HQ.out
    rw [ex] at hq
    have e3 := fl_is hq
    subst e3
    obtain ⟨t1, rt1, ft1, a1, a2⟩ := rsub fl litm6.1 1000001 (by decide) (by have := litm6.2; grind) (by have := litm6.2; grind)
    obtain ⟨t2, rt2, ft2, a3, a4⟩ := radd fh litm6.1 1000001 (by decide) (by have := litm6.2; grind) (by have := litm6.2; grind)
    have o1 := fin_op (f := .sub) rfl rt1
    have o2 := fin_op (f := .add) rfl rt2
    have q1 := order_gt fx ft1 (by have := litm6.2; grind)
    have q2 := order_lt fx ft2 (by have := litm6.2; grind)
    have c2 : (k : Int) < 2 * (cnt p k : Int) := by omega
    clear rt1 rt2 a1 a2 a3 a4 x1 x2 h5 l1 l2 h3 h4 ex hq fx fl fh
    go_wp2
    go_ret
    exact ⟨rfl, HB.out.trans (HW.out.mono HB.out.size)⟩
theorem fnMajority_walk (w : World) (s : Option Addr) (n c : Nat) (hn : n ≤ 9223372036854775807) (R : Bytes w s n) :
    Calls Try.prog 3 #[.slice s n c] w fun e w' => e = .returned (.bool true) ∧ Below w.heap.size w w' := by
  by_cases h : n ≤ 1048576
  · exact majority_near w s n c (by omega) (R.code h)
  · exact majority_far w s n c (by omega)

set_option maxRecDepth 100000 in
theorem fnMajority_lifted (os : Os) (started : os.Started) (H : Type) (enc : TypeId × Value → H) :
    ReturnsInHanded {} Try.checked os 3 .any (Rows.fnMajoritySpec.pre6 enc Try.prog Try.f3 Rows.fnMajorityRow.domain false) (Rows.fnMajoritySpec.post enc Try.prog Try.f3 false true false false) := by
  refine returnsInHanded_of_change (C := Try.checked) own started (by kernel_rfl) Try.func3
    (ChangeSpec.witness6 (enc := enc) (C := Try.checked) false ⟨#[], #[.slice none 0 0], []⟩ 8 (by kernel_rfl) (by kernel_rfl) (by kernel_rfl) (by kernel_rfl)) ?_
  intro W base args ds gs before hval0 hW hcnd _
  have hval : ∀ (j : Nat) t v, Try.f3.params[j]? = some t → args[j]? = some v → Value.okWide Try.prog W .any base t v := hval0
  have hW' := hW
  obtain ⟨p, q, hA0, hV, rfl, hfz, hnd⟩ := hW
  have hA : DataW.TrodAll enc Try.prog W 0 (fun _ => true) true Try.f3.params.toList args.toList ds p := hA0
  rw [Try.params3] at hA hval
  obtain ⟨v0, vs0, d0, ds0, p0, q0, hargs, rfl, rfl, h0, r0⟩ := trodAll_cons hA
  obtain ⟨rfl, rfl, rfl⟩ := trodAll_nil r0
  obtain rfl : args = #[v0] := by cases args; simp_all
  obtain ⟨rfl, rfl⟩ := trodVars_none hV
  have k0 := h0
  have lt0 : ∀ x ∈ p0, x.block < W.heap.size := by obtain ⟨m, hm⟩ := k0; exact DataW.trod_lt m _ _ _ hm
  obtain ⟨s0, n0, c0, rfl, m0, R0⟩ := open_code Try.underlying22 Try.underlying5 (by kernel_rfl) (hval 0 22 v0 rfl rfl) h0
  clear hA0 hval0
  refine (fnMajority_walk W s0 n0 c0 m0 R0).mono fun e W' ⟨he, bel⟩ => ?_
  subst he
  exact ⟨_, rfl, _, _, _, [], _, [], hW', trodAll_mk1 (shut_bool Try.underlying4 _), (trodAll_cons_mk (Below.trod laidOut (by kernel_rfl) (of_decide_eq_true (by kernel_rfl)) k0 bel lt0) trodAll_mk0), rfl, bel.frame _, fun h => by cases h⟩

theorem fnMajority_holds : Rows.FnMajoritySaid :=
  OpenClaim.holds_of_wide 3 Try.f3 rfl rfl rfl rfl rfl rfl rfl ⟨rfl, rfl, rfl, rfl, rfl⟩ rfl rfl rfl rfl rfl (by kernel_rfl) Try.func3 (by kernel_rfl)
    (of_decide_eq_true (by kernel_rfl)) (by unfold Func.isWrapper; first | (rw [if_pos (by decide +kernel)]; kernel_rfl) | (rw [if_neg (by decide +kernel)]; exact ⟨rfl, rfl⟩))
    (fun os started H enc _ => fnMajority_lifted os started H enc)
#print axioms fnMajority_holds
end Go.Proofs.Ytffbpidldnbgaaa
