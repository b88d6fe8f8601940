/-
What is proved: a bit of a number, as Go asks for it; a power of two.
-/
import Derived.Laws.BitsLemmas
import Derived.Deep.RegionHeld3
import Derived.Deep.DeepCutAuto
import Derived.Test.YtikcfpjfcpbfcaaOpen
import Derived.Test.YtikcfpjfcpbfcaaQiH
import Derived.Test.YtikcfpjfcpbfcaaI64
import Derived.Test.YtikcfpjfcpbfcaaCuI
import Derived.Test.YtikcfpjfcpbfcaaQiD
import Derived.Test.YtikcfpjfcpbfcaaRowI
import Derived.Test.YtikcfpjfcpbfcaaTn
namespace Go.Proofs.Ytikcfpjfcpbfcaa
set_option maxRecDepth 40000
open Go.ChangeShapes Go.WideShapes Go.ChangeAt Go.RowKit
set_option linter.unusedVariables false
set_option linter.unusedSimpArgs false

theorem wrapsX (n : Int) (h₀ : 0 ≤ n) (h₁ : n < 2 ^ 62) : IntKind.i64.wrap n = n := by rw [IntKind.wrap_i64]; omega
theorem div_castX (f n : Nat) : ((f : Int) / 2 ^ n) = ((f / 2 ^ n : Nat) : Int) := by simp
theorem bitX (f n : Nat) (hf : f < 2 ^ 62) : (bits .and .i64 ((f : Int) / 2 ^ n) 1 == (1 : Int)) = f.testBit n := by
  have h1 := (bits_nat .i64 62 (by decide) wrapsX (f / 2 ^ n) 1 (Nat.lt_of_le_of_lt (Nat.div_le_self _ _) hf) (by decide)).1
  rw [div_castX, show (1 : Int) = ((1 : Nat) : Int) from rfl, h1, Nat.and_one_is_mod, Nat.testBit_eq_decide_div_mod_eq]
  rcases Nat.mod_two_eq_zero_or_one (f / 2 ^ n) with e | e <;> rw [e] <;> rfl
theorem pow_castX (n : Nat) : ((2 : Int) ^ n) = ((2 ^ n : Nat) : Int) := by simp
theorem wpowX (x : Nat) (hx : x ≤ 14) : wrap64 ((2 : Int) ^ x) = ((2 ^ x : Nat) : Int) := by
  have hp : 2 ^ x ≤ 2 ^ 14 := Nat.pow_le_pow_right (by decide) hx
  have hq : ((2 ^ x : Nat) : Int) ≤ 16384 := by have : ((2 ^ x : Nat) : Int) ≤ ((2 ^ 14 : Nat) : Int) := Int.ofNat_le.2 hp; simpa using this
  have hz : (0 : Int) ≤ ((2 ^ x : Nat) : Int) := Int.natCast_nonneg _
  rw [pow_castX, IntWalk.wrap64_in _ ⟨by omega, by omega⟩]

open Go.ChangeShapes Go.WideShapes Go.ChangeAt Go.RowKit
set_option linter.unusedVariables false
set_option linter.unusedSimpArgs false

def cmpX (a b : Int) : Int := if a < b then -1 else if b < a then 1 else 0
set_option maxHeartbeats 400000 in
theorem isNaNX (a : Int) (w : World) : Calls Try.prog 108 #[.int .i64 a] w fun e w' => e = .returned (.bool false) ∧ w' = w := by
  have h : (a != a) = false := bne_self_eq_false a
  go_enter Try.func108, Try.ntmps108
  go_wp2
  go_ret
  exact ⟨rfl, rfl⟩
theorem ret_intX {x y : Int} (h : x = y) : (Ending.returned (.int .i64 x)) = .returned (.int .i64 y) := by rw [h]
set_option maxHeartbeats 800000 in
theorem compareX (a b : Int) (w : World) : Calls Try.prog 110 #[.int .i64 a, .int .i64 b] w fun e w' => e = .returned (.int .i64 (cmpX a b)) ∧ w' = w := by
  go_enter Try.func110, Try.ntmps110
  go_wp2_with fail
  refine (isNaNX a _).mono ?_
  rintro e w ⟨rfl, rfl⟩
  go_wp2_with fail
  refine (isNaNX b _).mono ?_
  rintro e w ⟨rfl, rfl⟩
  by_cases h1 : a < b
  · have HO : Hid (cmpX a b = -1) := by show _ = _; unfold cmpX; rw [if_pos h1]
    go_wp2
    go_ret
    exact ⟨ret_intX HO.out.symm, rfl⟩
  have h1' : decide (a < b) = false := decide_eq_false h1
  by_cases h2 : b < a
  · have HO : Hid (cmpX a b = 1) := by show _ = _; unfold cmpX; rw [if_neg h1, if_pos h2]
    go_wp2
    go_ret
    exact ⟨ret_intX HO.out.symm, rfl⟩
  have h2' : decide (b < a) = false := decide_eq_false h2
  have HO : Hid (cmpX a b = 0) := by show _ = _; unfold cmpX; rw [if_neg h1, if_neg h2]
  clear h1 h2
  go_wp2
  go_ret
  exact ⟨ret_intX HO.out.symm, rfl⟩
def cmX : List Int → List Int → Int
  | x :: a, y :: b => if x < y then -1 else if y < x then 1 else cmX a b
  | [], _ => 0
  | _ :: _, [] => 0
theorem cmX_lt : ∀ a b : List Int, decide (cmX a b < 0) = ltM a b
  | x :: a, y :: b => by
    unfold cmX ltM
    by_cases h1 : x < y
    · rw [if_pos h1, if_pos h1]; rfl
    · rw [if_neg h1, if_neg h1]
      by_cases h2 : y < x
      · rw [if_pos h2, if_pos h2]; rfl
      · rw [if_neg h2, if_neg h2]; exact cmX_lt a b
  | [], _ => by simp [cmX, ltM]
  | _ :: _, [] => by simp [cmX, ltM]
theorem drop_eqX {a : List Int} {k : Nat} (h : k < a.length) : a.drop k = a.getD k 0 :: a.drop (k + 1) := by
  rw [List.drop_eq_getElem_cons h, List.getD_eq_getElem?_getD, List.getElem?_eq_getElem h]; rfl
set_option maxHeartbeats 4000000 in
theorem slCompareX (t1 t2 : Option Addr) (c1 c2 : Nat) (a b : List Int) (w : World) (hl : a.length = b.length) (h1 : a.length ≤ 48) (H1 : Hid (RowI w t1 a.length (nthI a))) (H2 : Hid (RowI w t2 b.length (nthI b))) :
    Calls Try.prog 98 #[.slice t1 a.length c1, .slice t2 b.length c2] w fun e w' => e = .returned (.int .i64 (cmX a b)) ∧ w' = w := by
  obtain ⟨m, hm⟩ : ∃ m, a.length = m := ⟨_, rfl⟩
  have hmb : b.length = m := by omega
  rw [hm, hmb]
  have HM : Hid (a.length = m) := hm
  have HMB : Hid (b.length = m) := hmb
  have m48 : (m : Int) ≤ 48 := by omega
  clear hm hmb hl h1
  go_enter Try.func98, Try.ntmps98
  go_wp2_with fail
  go_loopw [11] (fun i wr => ∃ k : Nat, k ≤ m ∧ i = .int .i64 (k : Int) ∧ Hid (cmX a b = cmX (a.drop k) (b.drop k)) ∧ wr = w) (fun i _ => m - (intOf i).toNat)
  case atStart => exact ⟨0, by omega, rfl, rfl, rfl⟩
  case round =>
    obtain ⟨k, hk, rfl, HE, rfl⟩ := hrel
    by_cases hlt : k < m
    case neg =>
      obtain rfl : k = m := by omega
      have HZ : Hid (cmX a b = 0) := by
        show _ = _
        rw [HE.out, List.drop_eq_nil_of_le (by rw [HM.out]; exact Nat.le_refl _)]
        rfl
      go_wp2
      go_ret
      exact ⟨ret_intX HZ.out.symm, rfl⟩
    case pos =>
      have k1 : (k : Int) < (m : Int) := by omega
      have k2 : ¬ (m : Int) ≤ (k : Int) := by omega
      obtain ⟨g1, o1, e1, z1, x1⟩ := H1.out k (by rw [HM.out]; exact hlt)
      obtain ⟨g2, o2, e2, z2, x2⟩ := H2.out k (by rw [HMB.out]; exact hlt)
      subst e1
      subst e2
      unfold nthI at x1 x2
      have HD : Hid (cmX a b = if a.getD k 0 < b.getD k 0 then -1 else if b.getD k 0 < a.getD k 0 then 1 else cmX (a.drop (k + 1)) (b.drop (k + 1))) := by
        show _ = _
        rw [HE.out, drop_eqX (a := a) (by rw [HM.out]; exact hlt), drop_eqX (a := b) (by rw [HMB.out]; exact hlt)]
        rfl
      obtain ⟨x, hx⟩ : ∃ x, a.getD k 0 = x := ⟨_, rfl⟩
      obtain ⟨y, hy⟩ : ∃ y, b.getD k 0 = y := ⟨_, rfl⟩
      rw [hx] at x1 HD
      rw [hy] at x2 HD
      clear hx hy HE
      go_wp2_with fail
      refine (compareX x y _).mono ?_
      rintro e w2 ⟨rfl, rfl⟩
      rename World => w
      by_cases q1 : x < y
      case pos =>
        have e9 : cmpX x y = -1 := by unfold cmpX; rw [if_pos q1]
        have HZ : Hid (cmX a b = -1) := by show _ = _; rw [HD.out, if_pos q1]
        rw [e9]
        clear e9
        go_wp2
        go_ret
        exact ⟨ret_intX HZ.out.symm, rfl⟩
      case neg =>
        by_cases q2 : y < x
        case pos =>
          have e9 : cmpX x y = 1 := by unfold cmpX; rw [if_neg q1, if_pos q2]
          have HZ : Hid (cmX a b = 1) := by show _ = _; rw [HD.out, if_neg q1, if_pos q2]
          rw [e9]
          clear e9
          go_wp2
          go_ret
          exact ⟨ret_intX HZ.out.symm, rfl⟩
        case neg =>
          have e9 : cmpX x y = 0 := by unfold cmpX; rw [if_neg q1, if_neg q2]
          have HZ : Hid (cmX a b = cmX (a.drop (k + 1)) (b.drop (k + 1))) := by show _ = _; rw [HD.out, if_neg q1, if_neg q2]
          rw [e9]
          clear e9
          go_wp2
          go_roundw
          case rel => first | exact ⟨k + 1, by omega, by go_num, HZ, rfl⟩ | exact ⟨k + 1, by omega, by go_num, HZ, trivial⟩
          case measure => simp [intOf]; omega
set_option maxHeartbeats 2000000 in
theorem comesAheadX (t1 t2 : Option Addr) (c1 c2 : Nat) (a b : List Int) (w : World) (h1 : a.length ≤ 48) (h2 : b.length ≤ 48) (H1 : Hid (RowI w t1 a.length (nthI a))) (H2 : Hid (RowI w t2 b.length (nthI b))) :
    Calls Try.prog 70 #[.slice t1 a.length c1, .slice t2 b.length c2] w fun e w' => e = .returned (.bool (caM a b)) ∧ w' = w := by
  by_cases hl : a.length = b.length
  case pos =>
    have HV : Hid (caM a b = decide (cmX a b < 0)) := by show _ = _; unfold caM; rw [if_pos hl, cmX_lt]
    have HS : Hid (∀ w, RowI w t1 a.length (nthI a) → RowI w t2 b.length (nthI b) → Calls Try.prog 98 #[.slice t1 a.length c1, .slice t2 a.length c2] w fun e w' => e = .returned (.int .i64 (cmX a b)) ∧ w' = w) := fun w q1 q2 => by
      have := slCompareX t1 t2 c1 c2 a b w hl h1 q1 q2
      rw [← hl] at this
      exact this
    rw [← hl]
    clear hl h2
    obtain ⟨m, hm⟩ : ∃ m, a.length = m := ⟨_, rfl⟩
    rw [hm] at HS H1 ⊢
    clear hm
    go_enter Try.func70, Try.ntmps70
    go_wp2_with fail
    refine (HS.out w H1.out H2.out).mono ?_
    rintro e w2 ⟨rfl, rfl⟩
    go_wp2
    go_ret
    exact ⟨by rw [HV.out]; rfl, rfl⟩
  case neg =>
    have HV : Hid (caM a b = decide (a.length < b.length)) := by
      show _ = _
      unfold caM
      rw [if_neg hl]
    obtain ⟨m, hm⟩ : ∃ m, a.length = m := ⟨_, rfl⟩
    obtain ⟨k, hk⟩ : ∃ k, b.length = k := ⟨_, rfl⟩
    rw [hm, hk] at HV hl ⊢
    have hne : ((m : Int) == (k : Int)) = false := by simp; omega
    have hne2 : ((m : Int) != (k : Int)) = true := by simp; omega
    clear hm hk H1 H2
    go_enter Try.func70, Try.ntmps70
    go_wp2
    go_ret
    exact ⟨by rw [HV.out]; rfl, rfl⟩
set_option maxRecDepth 20000 in
set_option maxHeartbeats 4000000 in
theorem valves_any (p : Int) (s : Option Addr) (n c : Nat) (D : Nat → Int × Int) (t : Option Addr) (m d : Nat) (S : Nat → Int) (w : World) (hn : (n : Int) ≤ 1048576) :
    Calls Try.prog 68 #[.agg #[.int .i64 p, .slice s n c, .slice t m d]] w fun e w' => ∃ g, e = .returned (.slice (some ⟨g, 0, none⟩) n n) ∧ OwnI w.heap.size w' (some ⟨g, 0, none⟩) n (fun i => (i : Int)) ∧ Below w.heap.size w w' := by
  have hmk := make_i64 n (by omega)
  go_enter Try.func68, Try.ntmps68
  go_upto_region 1 with fail
  obtain ⟨wd, hwd⟩ : ∃ wd, wd = w.alloc (.cells #[.int .i64 p, .slice s n c, .slice t m d] 41) := ⟨_, rfl⟩
  rw [← hwd]
  have B0 : Below w.heap.size w wd := by rw [hwd]; exact below0 _ _
  have p1 : wd.cell? ⟨w.heap.size, 1, none⟩ = some (.slice s n c) := by rw [hwd]; simp [go_sem]
  have zd : w.heap.size < wd.heap.size := by rw [hwd]; simp
  have HB0 : Hid (Below w.heap.size w wd) := B0
  clear hwd B0
  go_wp2_with fail
  go_loopw [11] (fun i wr => ∃ k : Nat, k ≤ n ∧ i = .int .i64 k ∧ Hid (RowTo wd wr n k (fun i => (i : Int)))) (fun i _ => n - (intOf i).toNat)
  case atStart => exact ⟨0, Nat.zero_le _, rfl, rowTo_start wd n _ 2⟩
  case round =>
    clear p1
    obtain ⟨k, hk, rfl, HW⟩ := hrel
    have zr : wd.heap.size < wr.heap.size := HW.out.2.1
    have HBr : Hid (Below wd.heap.size wd wr) := HW.out.1
    have HBw : Hid (Below w.heap.size w wr) := HB0.out.trans (HBr.out.mono HB0.out.size)
    by_cases h2 : k < n
    · have k1 : (k : Int) < (n : Int) := by omega
      have f0 := HW.out.2.2.2 k h2
      have fz := HW.out.2.2.1 k
      have HX : Hid (RowTo wd (wr.setCell ⟨wd.heap.size, k, none⟩ (.int .i64 (k : Int))) n (k + 1) (fun i => (i : Int))) := rowTo_on HW.out (Below.refl _ _)
      go_wp2
      go_roundw
      case rel => exact ⟨k + 1, by omega, by go_num, HX⟩
      case measure => first | (simp [intOf]; done) | (simp [intOf]; omega)
    · obtain rfl : k = n := by omega
      have HO : Hid (OwnI w.heap.size wr (some ⟨wd.heap.size, 0, none⟩) k (fun i => (i : Int))) := (rowTo_own HW.out).mono HB0.out.size
      go_wp2
      go_ret
      exact ⟨_, rfl, HO.out, HBw.out⟩
set_option maxRecDepth 20000 in
set_option maxHeartbeats 4000000 in
theorem chosen_any (g : Nat) (n cc : Nat) (ch : Nat) (w : World) (hn : n ≤ 14) (hc : ch < 2 ^ 62) (HR : Hid (RowI w (some ⟨g, 0, none⟩) n (fun i => (i : Int)))) :
    Calls Try.prog 69 #[.slice (some ⟨g, 0, none⟩) n cc, .int .i64 ch] w fun e w' => ∃ v, e = .returned v ∧ OwL w.heap.size w' v (bsL ch n) ∧ Below w.heap.size w w' := by
  have HCH : Hid (ch < 2 ^ 62) := hc
  clear hc
  go_enter Try.func69, Try.ntmps69
  go_wp2_with fail
  go_loopw [5, 10] (fun v i wr => ∃ k : Nat, k ≤ n ∧ i = .int .i64 k ∧ Hid (OwL w.heap.size wr v (bsL ch k)) ∧ Hid (Below w.heap.size w wr)) (fun _ i _ => n - (intOf i).toNat)
  case atStart => exact ⟨0, Nat.zero_le _, rfl, OwL.nil _ _, Below.refl _ _⟩
  case round =>
    obtain ⟨k, hk, rfl, HL, HW⟩ := hrel
    rename World => wr
    by_cases h2 : k < n
    · have k1 : (k : Int) < (n : Int) := by omega
      obtain ⟨g', o', e', zg, cg⟩ := HR.out k h2
      cases e'
      rw [Nat.zero_add] at cg
      replace cg := (HW.out.cell (p := ⟨g, k, none⟩) zg).trans cg
      replace zg := Nat.lt_of_lt_of_le zg HW.out.size
      have hbit := bitX ch k HCH.out
      obtain ⟨L, hL⟩ : ∃ L, bsL ch k = L := ⟨_, rfl⟩
      have HLk : Hid (L.length ≤ k) := by show _ ≤ _; rw [← hL]; exact bs_len ch k
      obtain ⟨ml, hml⟩ : ∃ ml, L.length = ml := ⟨_, rfl⟩
      have HML : Hid (L.length = ml) := hml
      have hmk : ml ≤ k := by rw [← hml]; exact HLk.out
      have zz := HW.out.size
      cases q : ch.testBit k
      · have HN : Hid (bsL ch (k + 1) = L) := by show _ = _; unfold bsL; rw [q, if_neg (by decide)]; exact hL
        rw [q] at hbit
        rw [hL] at HL
        clear hml hL
        go_wp2
        go_roundw
        case rel => exact ⟨k + 1, by omega, by go_num, (by show OwL _ _ _ _; rw [HN.out]; exact HL.out), HW⟩
        case measure => first | (simp [intOf]; done) | (simp [intOf]; omega)
      · have HN : Hid (bsL ch (k + 1) = L ++ [(k : Int)]) := by show _ = _; unfold bsL; rw [q, if_pos rfl, hL]
        rw [q] at hbit
        rw [hL] at HL
        obtain ⟨s_, c_, e_, -⟩ := HL.out.own
        rw [hml] at e_
        clear hml hL
        subst e_
        go_wp2_with (at_builtin; refine list_oneL w.heap.size (.slice s_ ml c_) ml L (.tmp 20) (.tmp 22) (by rfl) (by rfl) (by rfl) (by rfl) HML.out HL.out (by omega) (by omega) ?_; intro g9 cap9 w9 l9 b9)
        have HL9 : Hid (OwL w.heap.size w9 (.slice (some ⟨g9, 0, none⟩) (ml + 1) cap9) (bsL ch (k + 1))) := by show OwL _ _ _ _; rw [HN.out]; exact l9
        have HW9 : Hid (Below w.heap.size w w9) := HW.out.trans b9
        clear l9 b9
        go_roundw
        case rel => exact ⟨k + 1, by omega, by go_num, HL9, HW9⟩
        case measure => first | (simp [intOf]; done) | (simp [intOf]; omega)
    · obtain rfl : k = n := by omega
      obtain ⟨s_, c_, e_, -⟩ := HL.out.own
      subst e_
      go_wp2
      go_ret
      exact ⟨_, rfl, HL.out, HW.out⟩

open Go.ChangeShapes Go.WideShapes Go.ChangeAt Go.RowKit
set_option linter.unusedVariables false
set_option linter.unusedSimpArgs false

theorem cut_up (p : Int) (n : Nat) (D : Nat → Int × Int) (m : Nat) (S : Nat → Int) (x : Int) (w : World) (t : Option Addr) (h : RowI w t n (fun i => (i : Int))) : RowI w t n (nthI (upL 0 n)) := h.congr fun j hj => (upL_nth n hj).symm
theorem OwL.ownC {base : Nat} {w : World} {v : Value} {l : List Int} (h : OwL base w v l) : ∃ s cap, v = .slice s l.length cap ∧ l.length ≤ cap ∧ OwnI base w s l.length (nthI l) := by
  obtain ⟨s, cap, e, ho⟩ := h.own
  refine ⟨s, cap, e, ?_, ho⟩
  rcases h.2 with ⟨q, z⟩ | ⟨g, cap', cur, e1, _, _, hc, _⟩
  · omega
  · rw [e1] at e
    simp only [Value.slice.injEq] at e
    omega
def FwPostC (p : Int) (n : Nat) (D : Nat → Int × Int) (m : Nat) (S : Nat → Int) (x : Int) (w : World) (e : Ending) (w' : World) : Prop := ∃ s c L, e = .returned (.tuple #[.slice s L.length c, .bool (fewB p n D m S x)]) ∧ OwnI w.heap.size w' s L.length (nthI L) ∧ FwR p n D m S x L ∧ Below w.heap.size w w' ∧ L.length ≤ c
set_option maxRecDepth 20000 in
set_option maxHeartbeats 8000000 in
theorem implFewestC_any (p : Int) (s : Option Addr) (n c : Nat) (D : Nat → Int × Int) (t : Option Addr) (m d : Nat) (S : Nat → Int) (x : Int) (w : World) (hn : (n : Int) ≤ 1048576) (hm : (m : Int) ≤ 1048576) (HD : Hid (RowDuct w s n D)) (HS : Hid (RowI w t m S)) :
    Calls Try.prog 32 #[.agg #[.int .i64 p, .slice s n c, .slice t m d], .int .i64 x] w fun e w' => FwPostC p n D m S x w e w' := by
  go_enter Try.func32, Try.ntmps32
  go_upto_region 1 with fail
  obtain ⟨wd, hwd⟩ : ∃ wd, wd = w.alloc (.cells #[.int .i64 p, .slice s n c, .slice t m d] 41) := ⟨_, rfl⟩
  rw [← hwd]
  have B0 : Below w.heap.size w wd := by rw [hwd]; exact below0 _ _
  have HBd : Hid (Below w.heap.size w wd) := B0
  obtain ⟨q, hq⟩ : ∃ q, q = w.heap.size := ⟨_, rfl⟩
  have HNt : Hid (wd.cell? ⟨q, 0, none⟩ = some (.int .i64 p) ∧ wd.cell? ⟨q, 1, none⟩ = some (.slice s n c) ∧ wd.cell? ⟨q, 2, none⟩ = some (.slice t m d) ∧ q < wd.heap.size) := by
    rw [hwd, hq]
    exact ⟨by simp [go_sem], by simp [go_sem], by simp [go_sem], by simp⟩
  have HDd : Hid (RowDuct wd s n D) := HD.out.below B0
  have HSd : Hid (RowI wd t m S) := HS.out.below B0
  try rw [← hq]
  clear hwd B0 hq
  have B1 : Hid (Below wd.heap.size wd wd) := Below.refl _ _
  have z3 : q < wd.heap.size := Nat.lt_of_lt_of_le HNt.out.2.2.2 B1.out.size
  have z0 := (B1.out.cell (p := ⟨q, 0, none⟩) HNt.out.2.2.2).trans HNt.out.1
  have z1 := (B1.out.cell (p := ⟨q, 1, none⟩) HNt.out.2.2.2).trans HNt.out.2.1
  have z2 := (B1.out.cell (p := ⟨q, 2, none⟩) HNt.out.2.2.2).trans HNt.out.2.2.1
  go_wp2_with fail
  refine (valves_any p s n c D t m d S _ hn).mono ?_
  rintro e w1 ⟨ga, rfl, O1, h1⟩
  have HW1 : Hid (Below wd.heap.size wd w1) := h1
  have HB1 : Hid (Below w.heap.size w w1) := HBd.out.trans (h1.mono HBd.out.size)
  have HA1 : Hid (OwnI w.heap.size w1 (some ⟨ga, 0, none⟩) n (fun i => (i : Int))) := O1.mono HBd.out.size
  clear h1 O1 z0 z1 z2 z3 B1
  have z3 : q < w1.heap.size := Nat.lt_of_lt_of_le HNt.out.2.2.2 HW1.out.size
  have z0 := (HW1.out.cell (p := ⟨q, 0, none⟩) HNt.out.2.2.2).trans HNt.out.1
  have z1 := (HW1.out.cell (p := ⟨q, 1, none⟩) HNt.out.2.2.2).trans HNt.out.2.1
  have z2 := (HW1.out.cell (p := ⟨q, 2, none⟩) HNt.out.2.2.2).trans HNt.out.2.2.1
  by_cases h14 : 14 < n
  case pos =>
    have HFB : Hid (fewB p n D m S x = false) := few_many h14
    have h14i : (14 : Int) < (n : Int) := by omega
    go_wp2
    refine bodyPost_ret (v := .tuple #[.slice none 0 0, .bool false]) (by simp [results, Try.results32, go_sem]) rfl ?_
    exact ⟨_, 0, [], (by rw [HFB.out]; rfl), fun j hj => absurd hj (Nat.not_lt_zero _), fw_no HFB.out, HB1.out, Nat.le_refl _⟩
  have h14i : ¬ (14 : Int) < (n : Int) := by omega
  have n14 : n ≤ 14 := by omega
  have HDx : Hid (RowDuct w1 s n D) := HDd.out.below HW1.out
  have HSx : Hid (RowI w1 t m S) := HSd.out.below HW1.out
  have HAx : Hid (RowI w1 (some ⟨ga, 0, none⟩) n (nthI (upL 0 n))) := cut_up p n D m S x w1 _ HA1.out.row
  obtain ⟨cb, hcb⟩ : ∃ cb, cutB p n D m S n (nthI (upL 0 n)) x = cb := ⟨_, rfl⟩
  have HCB : Hid (fewB p n D m S x = cb) := by show _ = _; rw [few_is n14]; unfold cutL; rw [upL_len]; exact hcb
  have HCC : Hid (cutL p n D m S x (upL 0 n) = cb) := by show _ = _; unfold cutL; rw [upL_len]; exact hcb
  go_wp2_with fail
  refine (implCutOff_any p s n c D t m d S (some ⟨ga, 0, none⟩) n n (nthI (upL 0 n)) x _ (by omega) hm (by omega) HDx HSx HAx).mono ?_
  rintro e w2 ⟨rfl, h2⟩
  rw [hcb]
  have HW2 : Hid (Below wd.heap.size wd w2) := HW1.out.trans (h2.mono HW1.out.size)
  have HB2 : Hid (Below w.heap.size w w2) := HBd.out.trans (HW2.out.mono HBd.out.size)
  have HA2 : Hid (OwnI w.heap.size w2 (some ⟨ga, 0, none⟩) n (fun i => (i : Int))) := HA1.out.below h2
  clear h2 hcb z0 z1 z2 z3 HDx HSx HAx HW1 HB1 HA1
  cases cb
  case false =>
    have HFB : Hid (fewB p n D m S x = false) := HCB.out
    go_wp2
    refine bodyPost_ret (v := .tuple #[.slice none 0 0, .bool false]) (by simp [results, Try.results32, go_sem]) rfl ?_
    exact ⟨_, 0, [], (by rw [HFB.out]; rfl), fun j hj => absurd hj (Nat.not_lt_zero _), fw_no HFB.out, HB2.out, Nat.le_refl _⟩
  case true =>
  obtain ⟨M, hM⟩ : ∃ M : Nat, 2 ^ n = M := ⟨_, rfl⟩
  have hw := wpowX n n14
  rw [hM] at hw
  have hM1 : M ≤ 16384 := by rw [← hM]; exact Nat.pow_le_pow_right (by decide) n14
  have HM : Hid (2 ^ n = M) := hM
  clear hM
  go_upto_region 6 with fail
  try rw [hw]
  clear hw
  go_loopw [7, 26] (fun v i wx => ∃ (k ml : Nat) (L : List Int) (tb : Option Addr) (cv : Nat), k ≤ M ∧ ml ≤ cv ∧ i = .int .i64 k ∧ v = .slice tb ml cv ∧ Hid (L.length = ml) ∧ Hid (BesI (cutL p n D m S x) n k L) ∧ Hid (OwnI w.heap.size wx tb ml (nthI L)) ∧ Hid (Below w2.heap.size w2 wx)) (fun _ i _ => M - (intOf i).toNat)
  case atStart => exact ⟨0, n, upL 0 n, _, _, by omega, Nat.le_refl _, rfl, rfl, upL_len 0 n, bes_start HCC.out, HA2.out.congr (fun j hj => (upL_nth n hj).symm), Below.refl _ _⟩
  case round =>
    obtain ⟨k, ml, L, tb, cv, hk, hmc, rfl, rfl, HML, HBE, HO, HY⟩ := hrel
    rename World => wx
    have HWx : Hid (Below wd.heap.size wd wx) := HW2.out.trans (HY.out.mono HW2.out.size)
    by_cases h3 : k < M
    case neg =>
      obtain rfl : k = M := by omega
      have HBx : Hid (Below w.heap.size w wx) := HB2.out.trans (HY.out.mono HB2.out.size)
      have HFW : Hid (FwR p n D m S x L) := fw_yes HCB.out (bes_end (by rw [HM.out]; exact HBE.out))
      go_wp2
      refine bodyPost_ret (v := .tuple #[.slice tb ml cv, .bool true]) (by simp [results, Try.results32, go_sem]) rfl ?_
      exact ⟨tb, cv, L, (by rw [HCB.out, HML.out]), (by rw [HML.out]; exact HO.out), HFW.out, HBx.out, (by rw [HML.out]; exact hmc)⟩
    case pos =>
      have k1 : (k : Int) < (M : Int) := by omega
      have HAx : Hid (RowI wx (some ⟨ga, 0, none⟩) n (fun i => (i : Int))) := HA2.out.row.below HY.out
      have hml : ml ≤ 14 := by
        rw [← HML.out]
        by_cases q_ : L = []
        · rw [q_]; simp
        · have := rsl_len L 0 HBE.out.1 q_; omega
      go_wp2_with fail
      refine (chosen_any ga n n k _ n14 (by omega) HAx).mono ?_
      rintro e w3 ⟨v3, rfl, O3, h3b⟩
      obtain ⟨Lk, hLk⟩ : ∃ Lk, bsL k n = Lk := ⟨_, rfl⟩
      rw [hLk] at O3
      obtain ⟨s3, c3, rfl, hc3', o3⟩ := O3.ownC
      obtain ⟨m3, hm3⟩ : ∃ m3, Lk.length = m3 := ⟨_, rfl⟩
      have h314 : m3 ≤ 14 := by rw [← hm3, ← hLk]; have := bs_len k n; omega
      have hc3 : m3 ≤ c3 := by omega
      have HM3 : Hid (Lk.length = m3) := hm3
      have HLK : Hid (bsL k n = Lk) := hLk
      rw [hm3] at o3
      rw [hm3]
      have HO3 : Hid (OwnI wx.heap.size w3 s3 m3 (nthI Lk)) := o3
      have HY3 : Hid (Below w2.heap.size w2 w3) := HY.out.trans (h3b.mono HY.out.size)
      have HOL : Hid (OwnI w.heap.size w3 tb ml (nthI L)) := HO.out.below h3b
      have HXW : Hid (w.heap.size ≤ wx.heap.size) := Nat.le_trans HB2.out.size HY.out.size
      clear O3 o3 h3b hm3 hLk HO HAx
      have HCA : Hid (Calls Try.prog 70 #[.slice s3 m3 c3, .slice tb ml cv] w3 fun e w' => e = .returned (.bool (caM Lk L)) ∧ w' = w3) := by
        have q_ := comesAheadX s3 tb c3 cv Lk L w3 (by rw [HM3.out]; omega) (by rw [HML.out]; omega) (by rw [HM3.out]; exact HO3.out.row) (by rw [HML.out]; exact HOL.out.row)
        rw [HM3.out, HML.out] at q_
        exact q_
      go_wp2_with fail
      refine HCA.out.mono ?_
      rintro e w3 ⟨rfl, rfl⟩
      rename World => w3
      cases qc : caM Lk L
      case false =>
        have HB2' : Hid (BesI (cutL p n D m S x) n (k + 1) L) := bes_no HBE.out (fun q_ => by rw [HLK.out, qc] at q_; cases q_)
        go_wp2
        go_roundw
        case rel => exact ⟨k + 1, ml, L, tb, cv, by omega, hmc, by go_num, rfl, HML, HB2', HOL, HY3⟩
        case measure => first | (simp [intOf]; done) | (simp [intOf]; omega)
      case true =>
        have HW3 : Hid (Below wd.heap.size wd w3) := HW2.out.trans (HY3.out.mono HW2.out.size)
        have z3 : q < w3.heap.size := Nat.lt_of_lt_of_le HNt.out.2.2.2 HW3.out.size
        have z0 := (HW3.out.cell (p := ⟨q, 0, none⟩) HNt.out.2.2.2).trans HNt.out.1
        have z1 := (HW3.out.cell (p := ⟨q, 1, none⟩) HNt.out.2.2.2).trans HNt.out.2.1
        have z2 := (HW3.out.cell (p := ⟨q, 2, none⟩) HNt.out.2.2.2).trans HNt.out.2.2.1
        have HD3 : Hid (RowDuct w3 s n D) := HDd.out.below HW3.out
        have HS3 : Hid (RowI w3 t m S) := HSd.out.below HW3.out
        obtain ⟨cu, hcu⟩ : ∃ cu, cutB p n D m S m3 (nthI Lk) x = cu := ⟨_, rfl⟩
        have HCU : Hid (cutL p n D m S x (bsL k n) = cu) := by show _ = _; rw [HLK.out]; unfold cutL; rw [HM3.out]; exact hcu
        go_wp2_with fail
        refine (implCutOff_any p s n c D t m d S s3 m3 c3 (nthI Lk) x _ (by omega) hm (by omega) HD3 HS3 HO3.out.row).mono ?_
        rintro e w4 ⟨rfl, h4⟩
        rw [hcu]
        have HY4 : Hid (Below w2.heap.size w2 w4) := HY3.out.trans (h4.mono HY3.out.size)
        cases cu
        case false =>
          have HB2' : Hid (BesI (cutL p n D m S x) n (k + 1) L) := bes_no HBE.out (fun _ => HCU.out)
          have HO4 : Hid (OwnI w.heap.size w4 tb ml (nthI L)) := HOL.out.below h4
          clear h4 hcu z0 z1 z2 z3 qc
          go_wp2
          go_roundw
          case rel => exact ⟨k + 1, ml, L, tb, cv, by omega, hmc, by go_num, rfl, HML, HB2', HO4, HY4⟩
          case measure => first | (simp [intOf]; done) | (simp [intOf]; omega)
        case true =>
          have HB2' : Hid (BesI (cutL p n D m S x) n (k + 1) Lk) := by
            have q_ := bes_yes HBE.out (by rw [HLK.out]; exact qc) HCU.out
            rw [HLK.out] at q_
            exact q_
          have HO4 : Hid (OwnI w.heap.size w4 s3 m3 (nthI Lk)) := (HO3.out.below h4).mono HXW.out
          clear h4 hcu z0 z1 z2 z3 qc
          go_wp2
          go_roundw
          case rel => exact ⟨k + 1, m3, Lk, s3, c3, by omega, hc3, by go_num, rfl, HM3, HB2', HO4, HY4⟩
          case measure => first | (simp [intOf]; done) | (simp [intOf]; omega)

open Go.ChangeShapes Go.WideShapes Go.ChangeAt Go.RowKit
set_option linter.unusedVariables false
set_option linter.unusedSimpArgs false

def ChoPost (p : Int) (s : Option Addr) (n c : Nat) (D : Nat → Int × Int) (t : Option Addr) (m d : Nat) (S : Nat → Int) (x : Int) (tc : Option Addr) (mc : Nat) (ch : List Int) (f : Nat) (sz : Nat) (w : World) (e : Ending) (w' : World) : Prop := ∃ s' c' k res ok, e = .returned (.tuple #[.slice s' k c', .bool ok]) ∧ res.length = k ∧ ChP (cutL p n D m S x) n ch (f : Int) sz res ok ∧ Below w.heap.size w w' ∧ ∀ B, B ≤ w.heap.size → OwnI B w tc mc (nthI ch) → OwnI B w' s' k (nthI res)
set_option maxRecDepth 20000 in
set_option maxHeartbeats 8000000 in
theorem l22Choose_any (p : Int) (s : Option Addr) (n c : Nat) (D : Nat → Int × Int) (t : Option Addr) (m d : Nat) (S : Nat → Int) (x : Int) (hn : n ≤ 14) (hm : (m : Int) ≤ 1048576) : ∀ (fu : Nat) (f : Nat) (F : Int) (hF : F = (f : Int)) (hf : f ≤ n) (hfu : n - f ≤ fu) (tc : Option Addr) (cc mc : Nat) (ch : List Int) (hch : ch.length = mc) (sz : Nat) (hms : mc ≤ sz) (hsz : sz ≤ 14) (w : World) (HD : Hid (RowDuct w s n D)) (HS : Hid (RowI w t m S)) (HC : Hid (RowI w tc mc (nthI ch))),
    Calls Try.prog 67 #[.agg #[.int .i64 p, .slice s n c, .slice t m d], .slice tc mc cc, .int .i64 F, .int .i64 sz, .int .i64 x] w fun e w' => ChoPost p s n c D t m d S x tc mc ch f sz w e w' := by
  intro fu
  induction fu using Nat.strongRecOn with
  | _ fu ih =>
  intro f F hF hf hfu tc cc mc ch hch sz hms hsz w HD HS HC
  subst hF
  have HCH : Hid (ch.length = mc) := hch
  clear hch
  go_enter Try.func67, Try.ntmps67
  go_upto_region 1 with fail
  obtain ⟨wd, hwd⟩ : ∃ wd, wd = w.alloc (.cells #[.int .i64 p, .slice s n c, .slice t m d] 41) := ⟨_, rfl⟩
  rw [← hwd]
  have B0 : Below w.heap.size w wd := by rw [hwd]; exact below0 _ _
  have HBd : Hid (Below w.heap.size w wd) := B0
  obtain ⟨q, hq⟩ : ∃ q, q = w.heap.size := ⟨_, rfl⟩
  have HNt : Hid (wd.cell? ⟨q, 0, none⟩ = some (.int .i64 p) ∧ wd.cell? ⟨q, 1, none⟩ = some (.slice s n c) ∧ wd.cell? ⟨q, 2, none⟩ = some (.slice t m d) ∧ q < wd.heap.size) := by
    rw [hwd, hq]
    exact ⟨by simp [go_sem], by simp [go_sem], by simp [go_sem], by simp⟩
  have HDd : Hid (RowDuct wd s n D) := HD.out.below B0
  have HSd : Hid (RowI wd t m S) := HS.out.below B0
  try rw [← hq]
  clear hwd B0 hq
  have HCd : Hid (RowI wd tc mc (nthI ch)) := HC.out.below HBd.out
  by_cases hms2 : mc = sz
  case pos =>
    subst hms2
    have B1 : Hid (Below wd.heap.size wd wd) := Below.refl _ _
    have z3 : q < wd.heap.size := Nat.lt_of_lt_of_le HNt.out.2.2.2 B1.out.size
    have z0 := (B1.out.cell (p := ⟨q, 0, none⟩) HNt.out.2.2.2).trans HNt.out.1
    have z1 := (B1.out.cell (p := ⟨q, 1, none⟩) HNt.out.2.2.2).trans HNt.out.2.1
    have z2 := (B1.out.cell (p := ⟨q, 2, none⟩) HNt.out.2.2.2).trans HNt.out.2.2.1
    obtain ⟨cb, hcb⟩ : ∃ cb, cutB p n D m S mc (nthI ch) x = cb := ⟨_, rfl⟩
    have HCB : Hid (cutL p n D m S x ch = cb) := by show _ = _; unfold cutL; rw [HCH.out]; exact hcb
    go_wp2_with fail
    refine (specCutOff_any p s n c D t m d S tc mc cc (nthI ch) x _ (by omega) hm (by omega) HDd HSd HCd).mono ?_
    rintro e w1 ⟨rfl, h1⟩
    rw [hcb]
    have HB1 : Hid (Below w.heap.size w w1) := HBd.out.trans (h1.mono HBd.out.size)
    clear h1 hcb
    go_wp2
    refine bodyPost_ret (v := .tuple #[.slice tc mc cc, .bool cb]) (by simp [results, Try.results67, go_sem]) rfl ?_
    exact ⟨tc, cc, mc, ch, cb, rfl, HCH.out, by have q_ := ch_base (P := cutL p n D m S x) (d := n) (f := (f : Int)) HCH.out; rw [HCB.out] at q_; exact q_, HB1.out, fun B hB ho => ho.below HB1.out⟩
  case neg =>
    have hne : ((mc : Int) == (sz : Int)) = false := by simp; omega
    have B1 : Hid (Below wd.heap.size wd wd) := Below.refl _ _
    go_wp2_with fail
    go_loopw [12] (fun v wx => ∃ i : Nat, f ≤ i ∧ i ≤ n ∧ v = .int .i64 i ∧ Hid (NoC (cutL p n D m S x) n ch (f : Int) (i : Int) sz) ∧ Hid (Below wd.heap.size wd wx)) (fun v _ => n - (intOf v).toNat)
    case atStart => exact ⟨f, Nat.le_refl _, hf, rfl, noc_start, B1⟩
    case round =>
      clear B1
      obtain ⟨i, fi, hi, rfl, HN, HW⟩ := hrel
      rename World => wx
      have z3 : q < wx.heap.size := Nat.lt_of_lt_of_le HNt.out.2.2.2 HW.out.size
      have z0 := (HW.out.cell (p := ⟨q, 0, none⟩) HNt.out.2.2.2).trans HNt.out.1
      have z1 := (HW.out.cell (p := ⟨q, 1, none⟩) HNt.out.2.2.2).trans HNt.out.2.1
      have z2 := (HW.out.cell (p := ⟨q, 2, none⟩) HNt.out.2.2.2).trans HNt.out.2.2.1
      by_cases h1 : i < n
      case neg =>
        obtain rfl : i = n := by omega
        have HBx : Hid (Below w.heap.size w wx) := HBd.out.trans (HW.out.mono HBd.out.size)
        go_wp2
        refine bodyPost_ret (v := .tuple #[.slice (some ⟨wx.heap.size, 0, none⟩) 0 0, .bool false]) (by simp [results, Try.results67, go_sem]) rfl ?_
        exact ⟨_, 0, 0, [], false, rfl, rfl, noc_end HN.out (Int.le_refl _) (by rw [HCH.out]; exact hms2), HBx.out.trans (show Below w.heap.size wx _ from (below0 _ _).mono HBx.out.size), fun B hB ho j hj => by omega⟩
      case pos =>
        have i1 : (i : Int) < (n : Int) := by omega
        have HCx : Hid (RowI wx tc mc (nthI ch)) := HCd.out.below HW.out
        go_upto_region 7 with (first | (refine list_copyL _ tc mc cc ch (.tmp 33) (.tmp 34) (by rfl) (by rfl) (by rfl) (by rfl) (by first | rfl | simp) HCH.out (by omega) HCx.out ?_; intro s1 c1 w1 O1 b1; have HO1 : Hid (OwL wx.heap.size w1 (.slice s1 mc c1) ch) := O1; have Hb1 : Hid (Below wx.heap.size wx w1) := b1; clear O1 b1) | (refine list_oneL wx.heap.size (.slice s1 mc c1) mc ch (.tmp 35) (.tmp 37) (by rfl) (by rfl) (by rfl) (by rfl) HCH.out HO1.out (by omega) Hb1.out.size ?_; intro g2 c2 w2 O2 b2))
        have HO2 : Hid (OwL wx.heap.size w2 (.slice (some ⟨g2, 0, none⟩) (mc + 1) c2) (ch ++ [(i : Int)])) := O2
        have HW2 : Hid (Below wd.heap.size wd w2) := HW.out.trans ((Hb1.out.trans b2).mono HW.out.size)
        have HXL : Hid (wx.heap.size ≤ w2.heap.size) := Nat.le_trans Hb1.out.size b2.size
        clear O2 b2 HO1 Hb1 z0 z1 z2 z3 HCx
        have z3 : q < w2.heap.size := Nat.lt_of_lt_of_le HNt.out.2.2.2 HW2.out.size
        have z0 := (HW2.out.cell (p := ⟨q, 0, none⟩) HNt.out.2.2.2).trans HNt.out.1
        have z1 := (HW2.out.cell (p := ⟨q, 1, none⟩) HNt.out.2.2.2).trans HNt.out.2.1
        have z2 := (HW2.out.cell (p := ⟨q, 2, none⟩) HNt.out.2.2.2).trans HNt.out.2.2.1
        have hl2 : (ch ++ [(i : Int)]).length = mc + 1 := by rw [List.length_append, HCH.out]; rfl
        have HR2 : Hid (OwnI wx.heap.size w2 (some ⟨g2, 0, none⟩) (mc + 1) (nthI (ch ++ [(i : Int)]))) := by
          obtain ⟨s_, c_, e_, o_⟩ := HO2.out.own
          rw [hl2] at e_ o_
          cases e_
          exact o_
        have HD2 : Hid (RowDuct w2 s n D) := HDd.out.below HW2.out
        have HS2 : Hid (RowI w2 t m S) := HSd.out.below HW2.out
        have HL2 : Hid ((ch ++ [(i : Int)]).length = mc + 1) := hl2
        clear HO2 hl2
        go_wp2_with fail
        refine (ih (n - (i + 1)) (by omega) (i + 1) _ (by first | rfl | omega | simp) (by omega) (Nat.le_refl _) (some ⟨g2, 0, none⟩) c2 (mc + 1) (ch ++ [(i : Int)]) HL2.out sz (by omega) hsz _ HD2 HS2 HR2.out.row).mono ?_
        rintro e w3 ⟨s', c', k3, res, ok, rfl, hk3, hc3, hb3, ho3⟩
        have HW3 : Hid (Below wd.heap.size wd w3) := HW2.out.trans (hb3.mono HW2.out.size)
        have HC3 : Hid (ChP (cutL p n D m S x) n (ch ++ [(i : Int)]) ((i : Int) + 1) sz res ok) := by
          have q_ := hc3
          rw [show ((i + 1 : Nat) : Int) = (i : Int) + 1 by omega] at q_
          exact q_
        have HK3 : Hid (res.length = k3) := hk3
        have HO3 : Hid (OwnI wx.heap.size w3 s' k3 (nthI res)) := ho3 _ HXL.out HR2.out
        clear hc3 hk3 ho3 hb3 z0 z1 z2 z3
        cases ok
        case true =>
          have HBx : Hid (Below w.heap.size w w3) := HBd.out.trans (HW3.out.mono HBd.out.size)
          have HXW : Hid (w.heap.size ≤ wx.heap.size) := Nat.le_trans HBd.out.size HW.out.size
          go_wp2
          refine bodyPost_ret (v := .tuple #[.slice s' k3 c', .bool true]) (by simp [results, Try.results67, go_sem]) rfl ?_
          exact ⟨s', c', k3, res, true, rfl, HK3.out, noc_hit HN.out (by omega) (by omega) (by rw [HCH.out]; exact hms2) HC3.out, HBx.out, fun B hB ho => HO3.out.mono (Nat.le_trans hB HXW.out)⟩
        case false =>
          have HN2 : Hid (NoC (cutL p n D m S x) n ch (f : Int) ((i + 1 : Nat) : Int) sz) := by show NoC _ _ _ _ _ _; rw [show ((i + 1 : Nat) : Int) = (i : Int) + 1 by omega]; exact noc_next HN.out HC3.out
          go_wp2
          go_roundw
          case rel => exact ⟨i + 1, by omega, by omega, by go_num, HN2, HW3⟩
          case measure => first | (simp [intOf]; done) | (simp [intOf]; omega)

open Go.ChangeShapes Go.WideShapes Go.ChangeAt Go.RowKit
set_option linter.unusedVariables false
set_option linter.unusedSimpArgs false

set_option maxRecDepth 20000 in
set_option maxHeartbeats 8000000 in
theorem specFewest_any (p : Int) (s : Option Addr) (n c : Nat) (D : Nat → Int × Int) (t : Option Addr) (m d : Nat) (S : Nat → Int) (x : Int) (w : World) (hn : (n : Int) ≤ 1048576) (hm : (m : Int) ≤ 1048576) (HD : Hid (RowDuct w s n D)) (HS : Hid (RowI w t m S)) :
    Calls Try.prog 31 #[.agg #[.int .i64 p, .slice s n c, .slice t m d], .int .i64 x] w fun e w' => FwPost p n D m S x w e w' := by
  go_enter Try.func31, Try.ntmps31
  go_upto_region 1 with fail
  obtain ⟨wd, hwd⟩ : ∃ wd, wd = w.alloc (.cells #[.int .i64 p, .slice s n c, .slice t m d] 41) := ⟨_, rfl⟩
  rw [← hwd]
  have B0 : Below w.heap.size w wd := by rw [hwd]; exact below0 _ _
  have HBd : Hid (Below w.heap.size w wd) := B0
  obtain ⟨q, hq⟩ : ∃ q, q = w.heap.size := ⟨_, rfl⟩
  have HNt : Hid (wd.cell? ⟨q, 0, none⟩ = some (.int .i64 p) ∧ wd.cell? ⟨q, 1, none⟩ = some (.slice s n c) ∧ wd.cell? ⟨q, 2, none⟩ = some (.slice t m d) ∧ q < wd.heap.size) := by
    rw [hwd, hq]
    exact ⟨by simp [go_sem], by simp [go_sem], by simp [go_sem], by simp⟩
  have HDd : Hid (RowDuct wd s n D) := HD.out.below B0
  have HSd : Hid (RowI wd t m S) := HS.out.below B0
  try rw [← hq]
  clear hwd B0 hq
  have B1 : Hid (Below wd.heap.size wd wd) := Below.refl _ _
  have z3 : q < wd.heap.size := Nat.lt_of_lt_of_le HNt.out.2.2.2 B1.out.size
  have z0 := (B1.out.cell (p := ⟨q, 0, none⟩) HNt.out.2.2.2).trans HNt.out.1
  have z1 := (B1.out.cell (p := ⟨q, 1, none⟩) HNt.out.2.2.2).trans HNt.out.2.1
  have z2 := (B1.out.cell (p := ⟨q, 2, none⟩) HNt.out.2.2.2).trans HNt.out.2.2.1
  go_wp2_with fail
  refine (specNetOk_any p s n c D t m d S _ hn hm HDd HSd).mono ?_
  rintro e w1 ⟨rfl, h1⟩
  have HW1 : Hid (Below wd.heap.size wd w1) := h1
  have HB1 : Hid (Below w.heap.size w w1) := HBd.out.trans (h1.mono HBd.out.size)
  clear h1 z0 z1 z2 z3 B1
  have z3 : q < w1.heap.size := Nat.lt_of_lt_of_le HNt.out.2.2.2 HW1.out.size
  have z0 := (HW1.out.cell (p := ⟨q, 0, none⟩) HNt.out.2.2.2).trans HNt.out.1
  have z1 := (HW1.out.cell (p := ⟨q, 1, none⟩) HNt.out.2.2.2).trans HNt.out.2.1
  have z2 := (HW1.out.cell (p := ⟨q, 2, none⟩) HNt.out.2.2.2).trans HNt.out.2.2.1
  cases hnet : netB p n D m S
  case false =>
    have HFB : Hid (fewB p n D m S x = false) := few_net hnet
    clear hnet
    go_wp2
    refine bodyPost_ret (v := .tuple #[.slice (some ⟨w1.heap.size, 0, none⟩) 0 0, .bool false]) (by simp [results, Try.results31, go_sem]) rfl ?_
    exact ⟨_, 0, [], (by rw [HFB.out]; rfl), fun j hj => absurd hj (Nat.not_lt_zero _), fw_no HFB.out, HB1.out.trans (show Below w.heap.size w1 _ from (below0 _ _).mono HB1.out.size)⟩
  case true =>
  clear hnet
  by_cases h14 : 14 < n
  case pos =>
    have HFB : Hid (fewB p n D m S x = false) := few_many h14
    have h14i : (14 : Int) < (n : Int) := by omega
    go_wp2
    refine bodyPost_ret (v := .tuple #[.slice (some ⟨w1.heap.size, 0, none⟩) 0 0, .bool false]) (by simp [results, Try.results31, go_sem]) rfl ?_
    exact ⟨_, 0, [], (by rw [HFB.out]; rfl), fun j hj => absurd hj (Nat.not_lt_zero _), fw_no HFB.out, HB1.out.trans (show Below w.heap.size w1 _ from (below0 _ _).mono HB1.out.size)⟩
  have h14i : ¬ (14 : Int) < (n : Int) := by omega
  have n14 : n ≤ 14 := by omega
  go_upto_region 4 with fail
  obtain ⟨wl, hwl⟩ : ∃ z, z = w1.alloc (.cells #[] 2) := ⟨_, rfl⟩
  rw [← hwl]
  have bl : Below w1.heap.size w1 wl := by rw [hwl]; exact below0 _ _
  obtain ⟨lb, hlb⟩ : ∃ z, z = w1.heap.size := ⟨_, rfl⟩
  have HL0 : Hid (OwL wd.heap.size wl (.slice (some ⟨lb, 0, none⟩) 0 0) []) := by show OwL _ _ _ _; rw [hwl, hlb]; exact OwL.lit w1 HW1.out.size
  have HWl : Hid (Below wd.heap.size wd wl) := HW1.out.trans (bl.mono HW1.out.size)
  try rw [← hlb]
  clear hwl bl hlb z0 z1 z2 z3
  go_wp2_with fail
  go_loopw [6, 7] (fun v i wx => ∃ (k : Nat) (tv : Option Addr) (cv : Nat), k ≤ n ∧ i = .int .i64 k ∧ v = .slice tv k cv ∧ Hid (OwL wd.heap.size wx (.slice tv k cv) (upL 0 k)) ∧ Hid (Below wd.heap.size wd wx)) (fun _ i _ => n - (intOf i).toNat)
  case atStart => exact ⟨0, _, 0, by omega, rfl, rfl, HL0, HWl⟩
  case round =>
    clear HL0 HWl
    obtain ⟨k, tv, cv, hk, rfl, rfl, HL, HW⟩ := hrel
    rename World => wx
    have HUL : Hid ((upL 0 k).length = k) := upL_len 0 k
    have z3 : q < wx.heap.size := Nat.lt_of_lt_of_le HNt.out.2.2.2 HW.out.size
    have z0 := (HW.out.cell (p := ⟨q, 0, none⟩) HNt.out.2.2.2).trans HNt.out.1
    have z1 := (HW.out.cell (p := ⟨q, 1, none⟩) HNt.out.2.2.2).trans HNt.out.2.1
    have z2 := (HW.out.cell (p := ⟨q, 2, none⟩) HNt.out.2.2.2).trans HNt.out.2.2.1
    by_cases h1 : k < n
    case pos =>
      have k1 : (k : Int) < (n : Int) := by omega
      have zz := HW.out.size
      go_wp2_with (at_builtin; refine list_oneL wd.heap.size (.slice tv k cv) k (upL 0 k) (.tmp 29) (.tmp 31) (by rfl) (by rfl) (by rfl) (by rfl) HUL.out HL.out (by omega) (by omega) ?_; intro g9 cap9 w9 l9 b9)
      have HL9 : Hid (OwL wd.heap.size w9 (.slice (some ⟨g9, 0, none⟩) (k + 1) cap9) (upL 0 (k + 1))) := by show OwL _ _ _ _; show OwL _ _ _ (upL 0 k ++ [0 + (k : Int)]); rw [Int.zero_add]; exact l9
      have HW9 : Hid (Below wd.heap.size wd w9) := HW.out.trans b9
      clear l9 b9
      go_roundw
      case rel => exact ⟨k + 1, _, cap9, by omega, by go_num, rfl, HL9, HW9⟩
      case measure => first | (simp [intOf]; done) | (simp [intOf]; omega)
    case neg =>
      obtain rfl : k = n := by omega
      have HO : Hid (OwnI wd.heap.size wx tv k (nthI (upL 0 k))) := by
        obtain ⟨s_, c_, e_, o_⟩ := HL.out.own
        rw [upL_len] at e_ o_
        cases e_
        exact o_
      have HDx : Hid (RowDuct wx s k D) := HDd.out.below HW.out
      have HSx : Hid (RowI wx t m S) := HSd.out.below HW.out
      obtain ⟨cb, hcb⟩ : ∃ cb, cutB p k D m S k (nthI (upL 0 k)) x = cb := ⟨_, rfl⟩
      have HCB : Hid (fewB p k D m S x = cb) := by show _ = _; rw [few_is n14]; unfold cutL; rw [upL_len]; exact hcb
      have HCC : Hid (cutL p k D m S x (upL 0 k) = cb) := by show _ = _; unfold cutL; rw [upL_len]; exact hcb
      clear HL
      go_wp2_with fail
      refine (specCutOff_any p s k c D t m d S tv k cv (nthI (upL 0 k)) x _ (by omega) hm (by omega) HDx HSx HO.out.row).mono ?_
      rintro e w2 ⟨rfl, h2⟩
      rw [hcb]
      have HW2 : Hid (Below wd.heap.size wd w2) := HW.out.trans (h2.mono HW.out.size)
      have HB2 : Hid (Below w.heap.size w w2) := HBd.out.trans (HW2.out.mono HBd.out.size)
      have HO2 : Hid (OwnI wd.heap.size w2 tv k (nthI (upL 0 k))) := HO.out.below h2
      clear h2 hcb z0 z1 z2 z3 HDx HSx HO HW
      cases cb
      case false =>
        have HFB : Hid (fewB p k D m S x = false) := HCB.out
        go_wp2
        refine bodyPost_ret (v := .tuple #[.slice (some ⟨w2.heap.size, 0, none⟩) 0 0, .bool false]) (by simp [results, Try.results31, go_sem]) rfl ?_
        exact ⟨_, 0, [], (by rw [HFB.out]; rfl), fun j hj => absurd hj (Nat.not_lt_zero _), fw_no HFB.out, HB2.out.trans (show Below w.heap.size w2 _ from (below0 _ _).mono HB2.out.size)⟩
      case true =>
        go_wp2_with fail
        go_loopw [8] (fun v wy => ∃ sz : Nat, sz ≤ k ∧ v = .int .i64 sz ∧ Hid (SzN (cutL p k D m S x) k sz) ∧ Hid (Below w2.heap.size w2 wy)) (fun v _ => k - (intOf v).toNat)
        case atStart => exact ⟨0, by omega, rfl, sz_start, Below.refl _ _⟩
        case round =>
          obtain ⟨sz, hsz, rfl, HZ, HY⟩ := hrel
          rename World => wy
          have HWy : Hid (Below wd.heap.size wd wy) := HW2.out.trans (HY.out.mono HW2.out.size)
          have z3 : q < wy.heap.size := Nat.lt_of_lt_of_le HNt.out.2.2.2 HWy.out.size
          have z0 := (HWy.out.cell (p := ⟨q, 0, none⟩) HNt.out.2.2.2).trans HNt.out.1
          have z1 := (HWy.out.cell (p := ⟨q, 1, none⟩) HNt.out.2.2.2).trans HNt.out.2.1
          have z2 := (HWy.out.cell (p := ⟨q, 2, none⟩) HNt.out.2.2.2).trans HNt.out.2.2.1
          by_cases h3 : sz < k
          case neg =>
            obtain rfl : sz = k := by omega
            have HBy : Hid (Below w.heap.size w wy) := HB2.out.trans (HY.out.mono HB2.out.size)
            have HOy : Hid (OwnI w.heap.size wy tv sz (nthI (upL 0 sz))) := (HO2.out.below HY.out).mono HBd.out.size
            have HFW : Hid (FwR p sz D m S x (upL 0 sz)) := fw_yes HCB.out (sz_all HZ.out HCC.out)
            go_wp2
            refine bodyPost_ret (v := .tuple #[.slice tv sz cv, .bool true]) (by simp [results, Try.results31, go_sem]) rfl ?_
            exact ⟨tv, cv, upL 0 sz, (by rw [HCB.out, upL_len]), (by rw [upL_len]; exact HOy.out), HFW.out, HBy.out⟩
          case pos =>
            have s1 : (sz : Int) < (k : Int) := by omega
            go_wp2_with fail
            obtain ⟨wz, hwz⟩ : ∃ z, z = wy.alloc (.cells #[] 2) := ⟨_, rfl⟩
            rw [← hwz]
            have bA : Below wy.heap.size wy wz := by rw [hwz]; exact below0 _ _
            have HDz : Hid (RowDuct wz s k D) := HDd.out.below (HWy.out.trans (bA.mono HWy.out.size))
            have HSz : Hid (RowI wz t m S) := HSd.out.below (HWy.out.trans (bA.mono HWy.out.size))
            have HCz : Hid (RowI wz (some ⟨wy.heap.size, 0, none⟩) 0 (nthI [])) := fun j hj => absurd hj (Nat.not_lt_zero _)
            have HbA : Hid (Below wy.heap.size wy wz) := bA
            clear hwz bA
            refine (l22Choose_any p s k c D t m d S x n14 hm k 0 0 rfl (Nat.zero_le _) (Nat.sub_le _ _) (some ⟨wy.heap.size, 0, none⟩) 0 0 [] rfl sz (Nat.zero_le _) (by omega) wz HDz HSz HCz).mono ?_
            rintro e w3 ⟨s', c', k3, res, ok, rfl, hk3, hc3, hb3, ho3⟩
            have bA := HbA.out
            have HW3 : Hid (Below w2.heap.size w2 w3) := HY.out.trans ((bA.trans (hb3.mono bA.size)).mono HY.out.size)
            have HC3 : Hid (ChP (cutL p k D m S x) k [] 0 sz res ok) := hc3
            have HK3 : Hid (res.length = k3) := hk3
            have HO3 : Hid (OwnI wy.heap.size w3 s' k3 (nthI res)) := ho3 _ bA.size (fun j hj => absurd hj (Nat.not_lt_zero _))
            clear hk3 hc3 hb3 ho3 bA z0 z1 z2 z3
            cases ok
            case true =>
              have HBy : Hid (Below w.heap.size w w3) := HB2.out.trans (HW3.out.mono HB2.out.size)
              have HOy : Hid (OwnI w.heap.size w3 s' k3 (nthI res)) := HO3.out.mono (Nat.le_trans HB2.out.size HY.out.size)
              have HFW : Hid (FwR p k D m S x res) := fw_yes HCB.out (sz_hit HZ.out HC3.out)
              go_wp2
              refine bodyPost_ret (v := .tuple #[.slice s' k3 c', .bool true]) (by simp [results, Try.results31, go_sem]) rfl ?_
              exact ⟨s', c', res, (by rw [HCB.out, HK3.out]), (by rw [HK3.out]; exact HOy.out), HFW.out, HBy.out⟩
            case false =>
              have HZ2 : Hid (SzN (cutL p k D m S x) k (sz + 1)) := sz_next HZ.out HC3.out
              go_wp2
              go_roundw
              case rel => exact ⟨sz + 1, by omega, by go_num, HZ2, HW3⟩
              case measure => first | (simp [intOf]; done) | (simp [intOf]; omega)

open Go.ChangeShapes Go.WideShapes Go.ChangeAt Go.RowKit
set_option linter.unusedVariables false
set_option linter.unusedSimpArgs false

set_option maxRecDepth 20000 in
set_option maxHeartbeats 8000000 in
theorem insert_any (b n q lb N : Nat) (X Y : Nat → Int) (K : Nat → Nat) (AA : Nat → Option Addr) (CC : Nat → Nat) (x y : Int) (a : Option Addr) (k c : Nat) (w : World) (hn : n ≤ 1000) (hq : q ≤ n) (hN : N = n + 1) (hp : Hid (∀ i, i < n → w.cell? ⟨b, i * 3, none⟩ = some (.int .i64 (X i)) ∧ w.cell? ⟨b, i * 3 + 1, none⟩ = some (.int .i64 (Y i)) ∧ w.cell? ⟨b, i * 3 + 2, none⟩ = some (.slice (AA i) (K i) (CC i)))) (hb : b < w.heap.size) (hlb : lb < w.heap.size)
    (h0 : Hid (w.cell? ⟨lb, 0, none⟩ = some (.int .i64 x))) (h1 : Hid (w.cell? ⟨lb, 1, none⟩ = some (.int .i64 y))) (h2 : Hid (w.cell? ⟨lb, 2, none⟩ = some (.slice a k c))) :
    Calls Try.prog 55 #[.slice (some ⟨b, 0, none⟩) n n, .int .i64 (q : Int), .slice (some ⟨lb, 0, none⟩) 1 1] w fun e w' => InsPost w N n q X Y K AA CC x y a k c e w' := by
  have q1 : (q : Int) ≤ (n : Int) := by omega
  have hNs : N = n + 1 := hN
  by_cases hl : q = n
  case pos =>
    subst hl
    obtain ⟨g, cap, W4, hrun, hins⟩ := ins_last b q lb X Y K AA CC x y a k c hn hp.out h0.out h1.out h2.out
    have HI : Hid (InsP w q q X Y K AA CC x y a k c g W4) := hins
    rw [← hNs] at hrun
    clear hins hN hNs
    go_enter Try.func55, Try.ntmps55
    go_wp2_with (at_builtin; refine list_appP (.tmp 23) (.tmp 24) _ _ _ _ (by rfl) (by rfl) (by rfl) (by rfl) hrun ?_)
    go_ret
    exact ⟨g, cap, rfl, HI.out⟩
  case neg =>
    have q2 : q < n := by omega
    have q3 : (q : Int) < (n : Int) := by omega
    have qb : ((q : Int) == (n : Int)) = false := beq_false_of_ne (by omega)
    obtain ⟨k1, hk1⟩ : ∃ k1, k1 = N - q := ⟨_, rfl⟩
    obtain ⟨k2, hk2⟩ : ∃ k2, k2 = n - q := ⟨_, rfl⟩
    obtain ⟨r, hr⟩ : ∃ r, r = q + 1 := ⟨_, rfl⟩
    obtain ⟨g, cap, W2, W3, W4, hrun, hcap, hcp, hcp2, hins⟩ := ins_worlds b n q k1 k2 r N lb X Y K AA CC x y a k c hn q2 (by omega) hk2 hr hNs hp.out hb hlb h0.out h1.out h2.out
    have HI : Hid (InsP w n q X Y K AA CC x y a k c g W4) := hins
    have w1 : IntKind.i64.wrap ((n : Int) + 1) = (N : Int) := by rw [IntKind.wrap_i64]; omega
    have w2 : IntKind.i64.wrap ((N : Int) - (q : Int)) = (k1 : Int) := by rw [IntKind.wrap_i64]; omega
    have w3 : IntKind.i64.wrap ((q : Int) + 1) = (r : Int) := by rw [IntKind.wrap_i64]; omega
    have e1 : (n : Int) + 1 = (N : Int) := by omega
    have e2 : (N : Int) - (q : Int) = (k1 : Int) := by omega
    have e3 : (q : Int) + 1 = (r : Int) := by omega
    have l1 : N - q = k1 := by omega
    have l2 : N - r = k2 := by omega
    have l3 : n - q = k2 := by omega
    have i1 : (n : Int) < (N : Int) := by omega
    have i2 : (q : Int) ≤ (N : Int) := by omega
    have i3 : (r : Int) ≤ (N : Int) := by omega
    have n1 : ¬ cap = q := by omega
    have n2 : ¬ cap = r := by omega
    have n3 : ¬ n = q := by omega
    have z1 : q ≤ N := by omega
    have z2 : r ≤ N := by omega
    clear hins hN hNs hk1 hk2 hr
    go_enter Try.func55, Try.ntmps55
    go_upto_region 10 with (at_builtin; refine list_growP (.tmp 34) (.tmp 39) k1 _ _ _ (by rfl) (by rfl) (by rfl) (by rfl) (hrun _) ?_)
    go_upto_region 11 with (at_builtin; refine list_copyP (.tmp 43) (.tmp 44) _ _ _ _ (by rfl) (by rfl) (by rfl) (by rfl) (hcp _ _) ?_)
    go_region
    all_goals go_wp2
    all_goals go_ret
    all_goals exact ⟨g, cap, rfl, HI.out⟩

open Go.ChangeShapes Go.WideShapes Go.ChangeAt Go.RowKit
set_option linter.unusedVariables false
set_option linter.unusedSimpArgs false

set_option maxHeartbeats 400000 in
theorem isNaNC (a : Int) (w : World) : Calls Try.prog 108 #[.int .i64 a] w fun e w' => e = .returned (.bool false) ∧ w' = w := by
  have h : (a != a) = false := bne_self_eq_false a
  go_enter Try.func108, Try.ntmps108
  go_wp2
  go_ret
  exact ⟨rfl, rfl⟩
set_option maxHeartbeats 400000 in
theorem isNaNS (a : Int) (w : World) : Calls Try.prog 92 #[.int .i64 a] w fun e w' => e = .returned (.bool false) ∧ w' = w := by
  have h : (a != a) = false := bne_self_eq_false a
  go_enter Try.func92, Try.ntmps92
  go_wp2
  go_ret
  exact ⟨rfl, rfl⟩
set_option maxHeartbeats 800000 in
theorem less_any (a b : Int) (w : World) : Calls Try.prog 91 #[.int .i64 a, .int .i64 b] w fun e w' => e = .returned (.bool (decide (a < b))) ∧ w' = w := by
  go_enter Try.func91, Try.ntmps91
  go_wp2_with fail
  refine (isNaNC a _).mono ?_
  rintro e w ⟨rfl, rfl⟩
  go_wp2
  go_ret
  exact ⟨rfl, rfl⟩
def BisPost (n : Nat) (V : Nat → Int) (x : Int) (e : Ending) : Prop := ∃ (k : Nat) (f : Bool), e = .returned (.tuple #[.int .i64 k, .bool f]) ∧ k ≤ n ∧ (∀ j, j < k → V j < x) ∧ (∀ j, k ≤ j → j < n → x ≤ V j) ∧ (f = true ↔ k < n ∧ V k = x)
set_option maxRecDepth 20000 in
set_option maxHeartbeats 4000000 in
theorem binSearch_any (s : Option Addr) (n c : Nat) (V : Nat → Int) (x : Int) (w : World) (hn : (n : Int) ≤ 1000000) (HV : Hid (∀ i j, i < j → j < n → V i < V j)) (HR : Hid (RowI w s n V)) :
    Calls Try.prog 53 #[.slice s n c, .int .i64 x] w fun e w' => BisPost n V x e ∧ w' = w := by
  go_enter Try.func53, Try.ntmps53
  go_wp2_with fail
  go_loopw [7, 8] (fun a b wx => ∃ l h : Nat, l ≤ h ∧ h ≤ n ∧ a = .int .i64 l ∧ b = .int .i64 h ∧ Hid (∀ j, j < l → V j < x) ∧ Hid (∀ j, h ≤ j → j < n → x ≤ V j) ∧ wx = w) (fun a b _ => (intOf b).toNat - (intOf a).toNat)
  case atStart => exact ⟨0, n, Nat.zero_le _, Nat.le_refl _, rfl, rfl, fun j hj => by omega, fun j a b => by omega, rfl⟩
  case round =>
    obtain ⟨l, h, hl, hh, rfl, rfl, H1, H2, rfl⟩ := hrel
    by_cases hlt : l < h
    case pos =>
      obtain ⟨z, hz⟩ : ∃ z : Nat, (l + h) / 2 = z := ⟨_, rfl⟩
      have z1 : l ≤ z := by omega
      have z2 : z < h := by omega
      have zn : z < n := by omega
      have lhi : (l : Int) < (h : Int) := by omega
      have zni : (z : Int) < (n : Int) := by omega
      have hz' : ((l : Int) + (h : Int)) / 2 = (z : Int) := by omega
      clear hz
      obtain ⟨g, o, rfl, zg, cg⟩ := HR.out z zn
      obtain ⟨y, hy⟩ : ∃ y, V z = y := ⟨_, rfl⟩
      have HY : Hid (V z = y) := hy
      rw [hy] at cg
      clear hy
      go_wp2_with fail
      refine (less_any y x _).mono ?_
      rintro e w2 ⟨rfl, rfl⟩
      by_cases q : y < x
      · have qd : decide (y < x) = true := decide_eq_true q
        have H3 : Hid (∀ j, j < z + 1 → V j < x) := fun j hj => by
          by_cases e : j = z
          · rw [e, HY.out]; exact q
          · have := HV.out j z (by omega) zn
            rw [HY.out] at this
            omega
        rw [qd]
        clear qd
        go_wp2
        go_roundw
        case rel => exact ⟨z + 1, h, by omega, hh, by go_num, rfl, H3, H2, by first | rfl | trivial⟩
        case measure => simp [intOf]; omega
      · have qd : decide (y < x) = false := decide_eq_false q
        have H3 : Hid (∀ j, z ≤ j → j < n → x ≤ V j) := fun j h1 h2 => by
          by_cases e : j = z
          · rw [e, HY.out]; omega
          · have := HV.out z j (by omega) h2
            rw [HY.out] at this
            omega
        rw [qd]
        clear qd
        go_wp2
        go_roundw
        case rel => exact ⟨l, z, by omega, by omega, rfl, by go_num, H1, H3, by first | rfl | trivial⟩
        case measure => simp [intOf]; omega
    case neg =>
      obtain rfl : l = h := by omega
      have lni : ¬ (l : Int) < (l : Int) := by omega
      by_cases q : l < n
      case neg =>
        have qn : ¬ (l : Int) < (n : Int) := by omega
        go_wp2
        refine bodyPost_ret (v := .tuple #[.int .i64 (l : Int), .bool false]) (by simp [results, Try.results53, go_sem]) rfl ?_
        exact ⟨⟨l, false, rfl, hh, H1.out, H2.out, ⟨fun z => (by cases z), fun z => absurd z.1 q⟩⟩, rfl⟩
      case pos =>
        have qi : (l : Int) < (n : Int) := by omega
        obtain ⟨g, o, rfl, zg, cg⟩ := HR.out l q
        obtain ⟨y, hy⟩ : ∃ y, V l = y := ⟨_, rfl⟩
        have HY : Hid (V l = y) := hy
        rw [hy] at cg
        clear hy
        by_cases e : y = x
        case pos =>
          have eb : (y == x) = true := by simp [e]
          go_wp2
          refine bodyPost_ret (v := .tuple #[.int .i64 (l : Int), .bool true]) (by simp [results, Try.results53, go_sem]) rfl ?_
          exact ⟨⟨l, true, rfl, hh, H1.out, H2.out, ⟨fun _ => ⟨q, by rw [HY.out]; exact e⟩, fun _ => rfl⟩⟩, rfl⟩
        case neg =>
          have eb : (y == x) = false := by simp [e]
          go_wp2_with fail
          refine (isNaNS y _).mono ?_
          rintro e w2 ⟨rfl, rfl⟩
          go_wp2
          refine bodyPost_ret (v := .tuple #[.int .i64 (l : Int), .bool false]) (by simp [results, Try.results53, go_sem]) rfl ?_
          exact ⟨⟨l, false, rfl, hh, H1.out, H2.out, ⟨fun z => (by cases z), fun z => absurd (by rw [← HY.out]; exact z.2) e⟩⟩, rfl⟩

end Go.Proofs.Ytikcfpjfcpbfcaa
