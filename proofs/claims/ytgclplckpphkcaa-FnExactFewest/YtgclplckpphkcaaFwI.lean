/-
What is proved: the valves of a net, those of a choice, which list comes ahead, as the program works them out.
-/
import Derived.Test.YtgclplckpphkcaaFwL
import Derived.Test.YtgclplckpphkcaaI64
import Derived.Test.YtgclplckpphkcaaFl2
import Derived.Deep.DeepCutAuto
namespace Go.Proofs.Ytgclplckpphkcaa
set_option maxRecDepth 40000
open Go.ChangeShapes Go.WideShapes Go.ChangeAt Go.RowKit
set_option linter.unusedVariables false
set_option linter.unusedSimpArgs false

def cmpX (a b : Int) : Int := if a < b then -1 else if b < a then 1 else 0
set_option maxHeartbeats 400000 in
theorem isNaNX (a : Int) (w : World) : Calls Try.prog 46 #[.int .i64 a] w fun e w' => e = .returned (.bool false) ∧ w' = w := by
  have h : (a != a) = false := bne_self_eq_false a
  go_enter Try.func46, Try.ntmps46
  go_wp2
  go_ret
  exact ⟨rfl, rfl⟩
theorem ret_intX {x y : Int} (h : x = y) : (Ending.returned (.int .i64 x)) = .returned (.int .i64 y) := by rw [h]
set_option maxHeartbeats 800000 in
theorem compareX (a b : Int) (w : World) : Calls Try.prog 45 #[.int .i64 a, .int .i64 b] w fun e w' => e = .returned (.int .i64 (cmpX a b)) ∧ w' = w := by
  go_enter Try.func45, Try.ntmps45
  go_wp2_with fail
  refine (isNaNX a _).mono ?_
  rintro e w ⟨rfl, rfl⟩
  go_wp2_with fail
  refine (isNaNX b _).mono ?_
  rintro e w ⟨rfl, rfl⟩
  by_cases h1 : a < b
  · have HO : Hid (cmpX a b = -1) := by show _ = _; unfold cmpX; rw [if_pos h1]
    go_wp2
    go_ret
    exact ⟨ret_intX HO.out.symm, rfl⟩
  have h1' : decide (a < b) = false := decide_eq_false h1
  by_cases h2 : b < a
  · have HO : Hid (cmpX a b = 1) := by show _ = _; unfold cmpX; rw [if_neg h1, if_pos h2]
    go_wp2
    go_ret
    exact ⟨ret_intX HO.out.symm, rfl⟩
  have h2' : decide (b < a) = false := decide_eq_false h2
  have HO : Hid (cmpX a b = 0) := by show _ = _; unfold cmpX; rw [if_neg h1, if_neg h2]
  clear h1 h2
  go_wp2
  go_ret
  exact ⟨ret_intX HO.out.symm, rfl⟩
def cmX : List Int → List Int → Int
  | x :: a, y :: b => if x < y then -1 else if y < x then 1 else cmX a b
  | [], _ => 0
  | _ :: _, [] => 0
theorem cmX_lt : ∀ a b : List Int, decide (cmX a b < 0) = ltM a b
  | x :: a, y :: b => by
    unfold cmX ltM
    by_cases h1 : x < y
    · rw [if_pos h1, if_pos h1]; rfl
    · rw [if_neg h1, if_neg h1]
      by_cases h2 : y < x
      · rw [if_pos h2, if_pos h2]; rfl
      · rw [if_neg h2, if_neg h2]; exact cmX_lt a b
  | [], _ => by simp [cmX, ltM]
  | _ :: _, [] => by simp [cmX, ltM]
theorem drop_eqX {a : List Int} {k : Nat} (h : k < a.length) : a.drop k = a.getD k 0 :: a.drop (k + 1) := by
  rw [List.drop_eq_getElem_cons h, List.getD_eq_getElem?_getD, List.getElem?_eq_getElem h]; rfl
set_option maxHeartbeats 4000000 in
theorem slCompareX (t1 t2 : Option Addr) (c1 c2 : Nat) (a b : List Int) (w : World) (hl : a.length = b.length) (h1 : a.length ≤ 48) (H1 : Hid (RowI w t1 a.length (nthI a))) (H2 : Hid (RowI w t2 b.length (nthI b))) :
    Calls Try.prog 40 #[.slice t1 a.length c1, .slice t2 b.length c2] w fun e w' => e = .returned (.int .i64 (cmX a b)) ∧ w' = w := by
  obtain ⟨m, hm⟩ : ∃ m, a.length = m := ⟨_, rfl⟩
  have hmb : b.length = m := by omega
  rw [hm, hmb]
  have HM : Hid (a.length = m) := hm
  have HMB : Hid (b.length = m) := hmb
  have m48 : (m : Int) ≤ 48 := by omega
  clear hm hmb hl h1
  go_enter Try.func40, Try.ntmps40
  go_wp2_with fail
  go_loopw [11] (fun i wr => ∃ k : Nat, k ≤ m ∧ i = .int .i64 (k : Int) ∧ Hid (cmX a b = cmX (a.drop k) (b.drop k)) ∧ wr = w) (fun i _ => m - (intOf i).toNat)
  case atStart => exact ⟨0, by omega, rfl, rfl, rfl⟩
  case round =>
    obtain ⟨k, hk, rfl, HE, rfl⟩ := hrel
    by_cases hlt : k < m
    case neg =>
      obtain rfl : k = m := by omega
      have HZ : Hid (cmX a b = 0) := by
        show _ = _
        rw [HE.out, List.drop_eq_nil_of_le (by rw [HM.out]; exact Nat.le_refl _)]
        rfl
      go_wp2
      go_ret
      exact ⟨ret_intX HZ.out.symm, rfl⟩
    case pos =>
      have k1 : (k : Int) < (m : Int) := by omega
      have k2 : ¬ (m : Int) ≤ (k : Int) := by omega
      obtain ⟨g1, o1, e1, z1, x1⟩ := H1.out k (by rw [HM.out]; exact hlt)
      obtain ⟨g2, o2, e2, z2, x2⟩ := H2.out k (by rw [HMB.out]; exact hlt)
      subst e1
      subst e2
      unfold nthI at x1 x2
      have HD : Hid (cmX a b = if a.getD k 0 < b.getD k 0 then -1 else if b.getD k 0 < a.getD k 0 then 1 else cmX (a.drop (k + 1)) (b.drop (k + 1))) := by
        show _ = _
        rw [HE.out, drop_eqX (a := a) (by rw [HM.out]; exact hlt), drop_eqX (a := b) (by rw [HMB.out]; exact hlt)]
        rfl
      obtain ⟨x, hx⟩ : ∃ x, a.getD k 0 = x := ⟨_, rfl⟩
      obtain ⟨y, hy⟩ : ∃ y, b.getD k 0 = y := ⟨_, rfl⟩
      rw [hx] at x1 HD
      rw [hy] at x2 HD
      clear hx hy HE
      go_wp2_with fail
      refine (compareX x y _).mono ?_
      rintro e w2 ⟨rfl, rfl⟩
      rename World => w
      by_cases q1 : x < y
      case pos =>
        have e9 : cmpX x y = -1 := by unfold cmpX; rw [if_pos q1]
        have HZ : Hid (cmX a b = -1) := by show _ = _; rw [HD.out, if_pos q1]
        rw [e9]
        clear e9
        go_wp2
        go_ret
        exact ⟨ret_intX HZ.out.symm, rfl⟩
      case neg =>
        by_cases q2 : y < x
        case pos =>
          have e9 : cmpX x y = 1 := by unfold cmpX; rw [if_neg q1, if_pos q2]
          have HZ : Hid (cmX a b = 1) := by show _ = _; rw [HD.out, if_neg q1, if_pos q2]
          rw [e9]
          clear e9
          go_wp2
          go_ret
          exact ⟨ret_intX HZ.out.symm, rfl⟩
        case neg =>
          have e9 : cmpX x y = 0 := by unfold cmpX; rw [if_neg q1, if_neg q2]
          have HZ : Hid (cmX a b = cmX (a.drop (k + 1)) (b.drop (k + 1))) := by show _ = _; rw [HD.out, if_neg q1, if_neg q2]
          rw [e9]
          clear e9
          go_wp2
          go_roundw
          case rel => first | exact ⟨k + 1, by omega, by go_num, HZ, rfl⟩ | exact ⟨k + 1, by omega, by go_num, HZ, trivial⟩
          case measure => simp [intOf]; omega
set_option maxHeartbeats 2000000 in
theorem comesAheadX (t1 t2 : Option Addr) (c1 c2 : Nat) (a b : List Int) (w : World) (h1 : a.length ≤ 48) (h2 : b.length ≤ 48) (H1 : Hid (RowI w t1 a.length (nthI a))) (H2 : Hid (RowI w t2 b.length (nthI b))) :
    Calls Try.prog 26 #[.slice t1 a.length c1, .slice t2 b.length c2] w fun e w' => e = .returned (.bool (caM a b)) ∧ w' = w := by
  by_cases hl : a.length = b.length
  case pos =>
    have HV : Hid (caM a b = decide (cmX a b < 0)) := by show _ = _; unfold caM; rw [if_pos hl, cmX_lt]
    have HS : Hid (∀ w, RowI w t1 a.length (nthI a) → RowI w t2 b.length (nthI b) → Calls Try.prog 40 #[.slice t1 a.length c1, .slice t2 a.length c2] w fun e w' => e = .returned (.int .i64 (cmX a b)) ∧ w' = w) := fun w q1 q2 => by
      have := slCompareX t1 t2 c1 c2 a b w hl h1 q1 q2
      rw [← hl] at this
      exact this
    rw [← hl]
    clear hl h2
    obtain ⟨m, hm⟩ : ∃ m, a.length = m := ⟨_, rfl⟩
    rw [hm] at HS H1 ⊢
    clear hm
    go_enter Try.func26, Try.ntmps26
    go_wp2_with fail
    refine (HS.out w H1.out H2.out).mono ?_
    rintro e w2 ⟨rfl, rfl⟩
    go_wp2
    go_ret
    exact ⟨by rw [HV.out]; rfl, rfl⟩
  case neg =>
    have HV : Hid (caM a b = decide (a.length < b.length)) := by
      show _ = _
      unfold caM
      rw [if_neg hl]
    obtain ⟨m, hm⟩ : ∃ m, a.length = m := ⟨_, rfl⟩
    obtain ⟨k, hk⟩ : ∃ k, b.length = k := ⟨_, rfl⟩
    rw [hm, hk] at HV hl ⊢
    have hne : ((m : Int) == (k : Int)) = false := by simp; omega
    have hne2 : ((m : Int) != (k : Int)) = true := by simp; omega
    clear hm hk H1 H2
    go_enter Try.func26, Try.ntmps26
    go_wp2
    go_ret
    exact ⟨by rw [HV.out]; rfl, rfl⟩
set_option maxRecDepth 20000 in
set_option maxHeartbeats 4000000 in
theorem valves_any (p : Int) (s : Option Addr) (n c : Nat) (D : Nat → Int × Int) (t : Option Addr) (m d : Nat) (S : Nat → Int) (w : World) (hn : (n : Int) ≤ 1048576) :
    Calls Try.prog 24 #[.agg #[.int .i64 p, .slice s n c, .slice t m d]] w fun e w' => ∃ g, e = .returned (.slice (some ⟨g, 0, none⟩) n n) ∧ OwnI w.heap.size w' (some ⟨g, 0, none⟩) n (fun i => (i : Int)) ∧ Below w.heap.size w w' := by
  have hmk := make_i64 n (by omega)
  go_enter Try.func24, Try.ntmps24
  go_upto_region 1 with fail
  obtain ⟨wd, hwd⟩ : ∃ wd, wd = w.alloc (.cells #[.int .i64 p, .slice s n c, .slice t m d] 31) := ⟨_, rfl⟩
  rw [← hwd]
  have B0 : Below w.heap.size w wd := by rw [hwd]; exact below0 _ _
  have p1 : wd.cell? ⟨w.heap.size, 1, none⟩ = some (.slice s n c) := by rw [hwd]; simp [go_sem]
  have zd : w.heap.size < wd.heap.size := by rw [hwd]; simp
  have HB0 : Hid (Below w.heap.size w wd) := B0
  clear hwd B0
  go_wp2_with fail
  go_loopw [11] (fun i wr => ∃ k : Nat, k ≤ n ∧ i = .int .i64 k ∧ Hid (RowTo wd wr n k (fun i => (i : Int)))) (fun i _ => n - (intOf i).toNat)
  case atStart => exact ⟨0, Nat.zero_le _, rfl, rowTo_start wd n _ 2⟩
  case round =>
    clear p1
    obtain ⟨k, hk, rfl, HW⟩ := hrel
    have zr : wd.heap.size < wr.heap.size := HW.out.2.1
    have HBr : Hid (Below wd.heap.size wd wr) := HW.out.1
    have HBw : Hid (Below w.heap.size w wr) := HB0.out.trans (HBr.out.mono HB0.out.size)
    by_cases h2 : k < n
    · have k1 : (k : Int) < (n : Int) := by omega
      have f0 := HW.out.2.2.2 k h2
      have fz := HW.out.2.2.1 k
      have HX : Hid (RowTo wd (wr.setCell ⟨wd.heap.size, k, none⟩ (.int .i64 (k : Int))) n (k + 1) (fun i => (i : Int))) := rowTo_on HW.out (Below.refl _ _)
      go_wp2
      go_roundw
      case rel => exact ⟨k + 1, by omega, by go_num, HX⟩
      case measure => first | (simp [intOf]; done) | (simp [intOf]; omega)
    · obtain rfl : k = n := by omega
      have HO : Hid (OwnI w.heap.size wr (some ⟨wd.heap.size, 0, none⟩) k (fun i => (i : Int))) := (rowTo_own HW.out).mono HB0.out.size
      go_wp2
      go_ret
      exact ⟨_, rfl, HO.out, HBw.out⟩
set_option maxRecDepth 20000 in
set_option maxHeartbeats 4000000 in
theorem chosen_any (g : Nat) (n cc : Nat) (ch : Nat) (w : World) (hn : n ≤ 14) (hc : ch < 2 ^ 62) (HR : Hid (RowI w (some ⟨g, 0, none⟩) n (fun i => (i : Int)))) :
    Calls Try.prog 25 #[.slice (some ⟨g, 0, none⟩) n cc, .int .i64 ch] w fun e w' => ∃ v, e = .returned v ∧ OwL w.heap.size w' v (bsL ch n) ∧ Below w.heap.size w w' := by
  have HCH : Hid (ch < 2 ^ 62) := hc
  clear hc
  go_enter Try.func25, Try.ntmps25
  go_wp2_with fail
  go_loopw [5, 10] (fun v i wr => ∃ k : Nat, k ≤ n ∧ i = .int .i64 k ∧ Hid (OwL w.heap.size wr v (bsL ch k)) ∧ Hid (Below w.heap.size w wr)) (fun _ i _ => n - (intOf i).toNat)
  case atStart => exact ⟨0, Nat.zero_le _, rfl, OwL.nil _ _, Below.refl _ _⟩
  case round =>
    obtain ⟨k, hk, rfl, HL, HW⟩ := hrel
    rename World => wr
    by_cases h2 : k < n
    · have k1 : (k : Int) < (n : Int) := by omega
      obtain ⟨g', o', e', zg, cg⟩ := HR.out k h2
      cases e'
      rw [Nat.zero_add] at cg
      replace cg := (HW.out.cell (p := ⟨g, k, none⟩) zg).trans cg
      replace zg := Nat.lt_of_lt_of_le zg HW.out.size
      have hbit := bitX ch k HCH.out
      obtain ⟨L, hL⟩ : ∃ L, bsL ch k = L := ⟨_, rfl⟩
      have HLk : Hid (L.length ≤ k) := by show _ ≤ _; rw [← hL]; exact bs_len ch k
      obtain ⟨ml, hml⟩ : ∃ ml, L.length = ml := ⟨_, rfl⟩
      have HML : Hid (L.length = ml) := hml
      have hmk : ml ≤ k := by rw [← hml]; exact HLk.out
      have zz := HW.out.size
      cases q : ch.testBit k
      · have HN : Hid (bsL ch (k + 1) = L) := by show _ = _; unfold bsL; rw [q, if_neg (by decide)]; exact hL
        rw [q] at hbit
        rw [hL] at HL
        clear hml hL
        go_wp2
        go_roundw
        case rel => exact ⟨k + 1, by omega, by go_num, (by show OwL _ _ _ _; rw [HN.out]; exact HL.out), HW⟩
        case measure => first | (simp [intOf]; done) | (simp [intOf]; omega)
      · have HN : Hid (bsL ch (k + 1) = L ++ [(k : Int)]) := by show _ = _; unfold bsL; rw [q, if_pos rfl, hL]
        rw [q] at hbit
        rw [hL] at HL
        obtain ⟨s_, c_, e_, -⟩ := HL.out.own
        rw [hml] at e_
        clear hml hL
        subst e_
        go_wp2_with (at_builtin; refine list_oneL w.heap.size (.slice s_ ml c_) ml L (.tmp 20) (.tmp 22) (by rfl) (by rfl) (by rfl) (by rfl) HML.out HL.out (by omega) (by omega) ?_; intro g9 cap9 w9 l9 b9)
        have HL9 : Hid (OwL w.heap.size w9 (.slice (some ⟨g9, 0, none⟩) (ml + 1) cap9) (bsL ch (k + 1))) := by show OwL _ _ _ _; rw [HN.out]; exact l9
        have HW9 : Hid (Below w.heap.size w w9) := HW.out.trans b9
        clear l9 b9
        go_roundw
        case rel => exact ⟨k + 1, by omega, by go_num, HL9, HW9⟩
        case measure => first | (simp [intOf]; done) | (simp [intOf]; omega)
    · obtain rfl : k = n := by omega
      obtain ⟨s_, c_, e_, -⟩ := HL.out.own
      subst e_
      go_wp2
      go_ret
      exact ⟨_, rfl, HL.out, HW.out⟩
end Go.Proofs.Ytgclplckpphkcaa
