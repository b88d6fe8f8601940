/-
What is proved: which of two routes is better, and a route from a step ahead of it.
-/
import Derived.Test.YtlkegoofpmgcjaaSoM
import Derived.Test.YtlkegoofpmgcjaaLsF
import Derived.Deep.DeepCutAuto
import Derived.BigQuiet
import Derived.RegionTactic
import Derived.Deep.RegionHeldLaw
namespace Go.Proofs.Ytlkegoofpmgcjaa
set_option maxRecDepth 40000
open Go.ChangeShapes Go.WideShapes Go.ChangeAt Go.RowKit
set_option linter.unusedVariables false
set_option linter.unusedSimpArgs false

def cmpW (a b : Int) : Int := if a < b then -1 else if b < a then 1 else 0
set_option maxHeartbeats 400000 in
theorem isNaNW (a : Int) (w : World) : Calls Try.prog 82 #[.int .i64 a] w fun e w' => e = .returned (.bool false) ∧ w' = w := by
  have h : (a != a) = false := bne_self_eq_false a
  go_enter Try.func82, Try.ntmps82
  go_wp2
  go_ret
  exact ⟨rfl, rfl⟩
theorem ret_intW {x y : Int} (h : x = y) : (Ending.returned (.int .i64 x)) = .returned (.int .i64 y) := by rw [h]
set_option maxHeartbeats 800000 in
theorem compareW (a b : Int) (w : World) : Calls Try.prog 70 #[.int .i64 a, .int .i64 b] w fun e w' => e = .returned (.int .i64 (cmpW a b)) ∧ w' = w := by
  go_enter Try.func70, Try.ntmps70
  go_wp2_with fail
  refine (isNaNW a _).mono ?_
  rintro e w ⟨rfl, rfl⟩
  go_wp2_with fail
  refine (isNaNW b _).mono ?_
  rintro e w ⟨rfl, rfl⟩
  by_cases h1 : a < b
  · have HO : Hid (cmpW a b = -1) := by show _ = _; unfold cmpW; rw [if_pos h1]
    go_wp2
    go_ret
    exact ⟨ret_intW HO.out.symm, rfl⟩
  have h1' : decide (a < b) = false := decide_eq_false h1
  by_cases h2 : b < a
  · have HO : Hid (cmpW a b = 1) := by show _ = _; unfold cmpW; rw [if_neg h1, if_pos h2]
    go_wp2
    go_ret
    exact ⟨ret_intW HO.out.symm, rfl⟩
  have h2' : decide (b < a) = false := decide_eq_false h2
  have HO : Hid (cmpW a b = 0) := by show _ = _; unfold cmpW; rw [if_neg h1, if_neg h2]
  clear h1 h2
  go_wp2
  go_ret
  exact ⟨ret_intW HO.out.symm, rfl⟩
def cmL : List Int → List Int → Int
  | x :: a, y :: b => if x < y then -1 else if y < x then 1 else cmL a b
  | [], _ => 0
  | _ :: _, [] => 0
theorem cm_lt : ∀ a b : List Int, decide (cmL a b < 0) = ltL a b
  | x :: a, y :: b => by
    unfold cmL ltL
    by_cases h1 : x < y
    · rw [if_pos h1, if_pos h1]; rfl
    · rw [if_neg h1, if_neg h1]
      by_cases h2 : y < x
      · rw [if_pos h2, if_pos h2]; rfl
      · rw [if_neg h2, if_neg h2]; exact cm_lt a b
  | [], _ => by simp [cmL, ltL]
  | _ :: _, [] => by simp [cmL, ltL]
theorem drop_eq {a : List Int} {k : Nat} (h : k < a.length) : a.drop k = a.getD k 0 :: a.drop (k + 1) := by
  rw [List.drop_eq_getElem_cons h, List.getD_eq_getElem?_getD, List.getElem?_eq_getElem h]; rfl
set_option maxHeartbeats 4000000 in
theorem slCompare_any (t1 t2 : Option Addr) (c1 c2 : Nat) (a b : List Int) (w : World) (hl : a.length = b.length) (h1 : a.length ≤ 48) (H1 : Hid (LstV w t1 c1 a)) (H2 : Hid (LstV w t2 c2 b)) :
    Calls Try.prog 66 #[.slice t1 a.length c1, .slice t2 b.length c2] w fun e w' => e = .returned (.int .i64 (cmL a b)) ∧ w' = w := by
  obtain ⟨m, hm⟩ : ∃ m, a.length = m := ⟨_, rfl⟩
  have hmb : b.length = m := by omega
  rw [hm, hmb]
  have HM : Hid (a.length = m) := hm
  have HMB : Hid (b.length = m) := hmb
  have m48 : (m : Int) ≤ 48 := by omega
  clear hm hmb hl h1
  go_enter Try.func66, Try.ntmps66
  go_wp2_with fail
  go_loopw [11] (fun i wr => ∃ k : Nat, k ≤ m ∧ i = .int .i64 (k : Int) ∧ Hid (cmL a b = cmL (a.drop k) (b.drop k)) ∧ wr = w) (fun i _ => m - (intOf i).toNat)
  case atStart => exact ⟨0, by omega, rfl, rfl, rfl⟩
  case round =>
    obtain ⟨k, hk, rfl, HE, rfl⟩ := hrel
    by_cases hlt : k < m
    case neg =>
      obtain rfl : k = m := by omega
      have HZ : Hid (cmL a b = 0) := by
        show _ = _
        rw [HE.out, List.drop_eq_nil_of_le (by rw [HM.out]; exact Nat.le_refl _)]
        rfl
      go_wp2
      go_ret
      exact ⟨ret_intW HZ.out.symm, rfl⟩
    case pos =>
      have k1 : (k : Int) < (m : Int) := by omega
      have k2 : ¬ (m : Int) ≤ (k : Int) := by omega
      rcases H1.out with ⟨e0, -⟩ | ⟨-, g1, e1, z1, f1⟩
      · have := HM.out; rw [e0] at this; simp at this; omega
      rcases H2.out with ⟨e0, -⟩ | ⟨-, g2, e2, z2, f2⟩
      · have := HMB.out; rw [e0] at this; simp at this; omega
      subst e1
      subst e2
      have x1 := f1 k (by rw [HM.out]; exact hlt)
      have x2 := f2 k (by rw [HMB.out]; exact hlt)
      have HD : Hid (cmL a b = if a.getD k 0 < b.getD k 0 then -1 else if b.getD k 0 < a.getD k 0 then 1 else cmL (a.drop (k + 1)) (b.drop (k + 1))) := by
        show _ = _
        rw [HE.out, drop_eq (a := a) (by rw [HM.out]; exact hlt), drop_eq (a := b) (by rw [HMB.out]; exact hlt)]
        rfl
      obtain ⟨x, hx⟩ : ∃ x, a.getD k 0 = x := ⟨_, rfl⟩
      obtain ⟨y, hy⟩ : ∃ y, b.getD k 0 = y := ⟨_, rfl⟩
      rw [hx] at x1 HD
      rw [hy] at x2 HD
      clear hx hy f1 f2 HE
      go_wp2_with fail
      refine (compareW x y _).mono ?_
      rintro e w2 ⟨rfl, rfl⟩
      rename World => w
      by_cases q1 : x < y
      case pos =>
        have e9 : cmpW x y = -1 := by unfold cmpW; rw [if_pos q1]
        have HZ : Hid (cmL a b = -1) := by show _ = _; rw [HD.out, if_pos q1]
        rw [e9]
        clear e9
        go_wp2
        go_ret
        exact ⟨ret_intW HZ.out.symm, rfl⟩
      case neg =>
        by_cases q2 : y < x
        case pos =>
          have e9 : cmpW x y = 1 := by unfold cmpW; rw [if_neg q1, if_pos q2]
          have HZ : Hid (cmL a b = 1) := by show _ = _; rw [HD.out, if_neg q1, if_pos q2]
          rw [e9]
          clear e9
          go_wp2
          go_ret
          exact ⟨ret_intW HZ.out.symm, rfl⟩
        case neg =>
          have e9 : cmpW x y = 0 := by unfold cmpW; rw [if_neg q1, if_neg q2]
          have HZ : Hid (cmL a b = cmL (a.drop (k + 1)) (b.drop (k + 1))) := by show _ = _; rw [HD.out, if_neg q1, if_neg q2]
          rw [e9]
          clear e9
          go_wp2
          go_roundw
          case rel => first | exact ⟨k + 1, by omega, by go_num, HZ, rfl⟩ | exact ⟨k + 1, by omega, by go_num, HZ, trivial⟩
          case measure => simp [intOf]; omega
set_option maxHeartbeats 2000000 in
theorem comesAhead_any (t1 t2 : Option Addr) (c1 c2 : Nat) (a b : List Int) (w : World) (h1 : a.length ≤ 48) (h2 : b.length ≤ 48) (H1 : Hid (LstV w t1 c1 a)) (H2 : Hid (LstV w t2 c2 b)) :
    Calls Try.prog 57 #[.slice t1 a.length c1, .slice t2 b.length c2] w fun e w' => e = .returned (.bool (caB a b)) ∧ w' = w := by
  by_cases hl : a.length = b.length
  case pos =>
    have HV : Hid (caB a b = decide (cmL a b < 0)) := by show _ = _; unfold caB; rw [if_pos hl, cm_lt]
    have HS : Hid (∀ w, LstV w t1 c1 a → LstV w t2 c2 b → Calls Try.prog 66 #[.slice t1 a.length c1, .slice t2 a.length c2] w fun e w' => e = .returned (.int .i64 (cmL a b)) ∧ w' = w) := fun w q1 q2 => by
      have := slCompare_any t1 t2 c1 c2 a b w hl h1 q1 q2
      rw [← hl] at this
      exact this
    rw [← hl]
    clear hl h2
    obtain ⟨m, hm⟩ : ∃ m, a.length = m := ⟨_, rfl⟩
    rw [hm] at HS ⊢
    clear hm
    go_enter Try.func57, Try.ntmps57
    go_wp2_with fail
    refine (HS.out w H1.out H2.out).mono ?_
    rintro e w2 ⟨rfl, rfl⟩
    go_wp2
    go_ret
    exact ⟨by rw [HV.out]; rfl, rfl⟩
  case neg =>
    have HV : Hid (caB a b = decide (a.length < b.length)) := by
      show _ = _
      unfold caB
      rw [if_neg hl]
    obtain ⟨m, hm⟩ : ∃ m, a.length = m := ⟨_, rfl⟩
    obtain ⟨k, hk⟩ : ∃ k, b.length = k := ⟨_, rfl⟩
    rw [hm, hk] at HV hl ⊢
    have hne : ((m : Int) == (k : Int)) = false := by simp; omega
    have hne2 : ((m : Int) != (k : Int)) = true := by simp; omega
    clear hm hk H1 H2
    go_enter Try.func57, Try.ntmps57
    go_wp2
    go_ret
    exact ⟨by rw [HV.out]; rfl, rfl⟩
def RtV (r : Rte) (t : Option Addr) (c : Nat) : Value := .agg #[.bool r.1, .slice t r.2.length c]
def BtPost (a b : Rte) (ta tb : Option Addr) (ca cb : Nat) (w : World) (e : Ending) (w' : World) : Prop := ((btR a b = b ∧ e = .returned (RtV b tb cb)) ∨ (btR a b = a ∧ e = .returned (RtV a ta ca))) ∧ Below w.heap.size w w'
set_option maxRecDepth 20000 in
set_option maxHeartbeats 4000000 in
theorem better_any (a1 b1 : Bool) (a2 b2 : List Int) (ta tb : Option Addr) (ca cb : Nat) (w : World) (h1 : a2.length ≤ 48) (h2 : b2.length ≤ 48) (H1 : Hid (LstV w ta ca a2)) (H2 : Hid (LstV w tb cb b2)) :
    Calls Try.prog 35 #[RtV (a1, a2) ta ca, RtV (b1, b2) tb cb] w fun e w' => BtPost (a1, a2) (b1, b2) ta tb ca cb w e w' := by
  unfold RtV
  have HC : Hid (∀ W, LstV W ta ca a2 → LstV W tb cb b2 → Calls Try.prog 57 #[.slice tb b2.length cb, .slice ta a2.length ca] W fun e w' => e = .returned (.bool (caB b2 a2)) ∧ w' = W) := fun W q1 q2 => comesAhead_any tb ta cb ca b2 a2 W h2 h1 q2 q1
  have K0 : Hid (btR (a1, a2) (b1, b2) = if (b1 && (!a1 || caB b2 a2)) = true then (b1, b2) else (a1, a2)) := rfl
  obtain ⟨m, hm⟩ : ∃ m, a2.length = m := ⟨_, rfl⟩
  obtain ⟨k, hk⟩ : ∃ k, b2.length = k := ⟨_, rfl⟩
  have HMK : Hid (a2.length = m ∧ b2.length = k) := ⟨hm, hk⟩
  simp only [hm, hk] at HC ⊢
  clear hm hk h1 h2
  have FB : Hid (btR (a1, a2) (b1, b2) = (b1, b2) → ∀ w', Below w.heap.size w w' → BtPost (a1, a2) (b1, b2) ta tb ca cb w (.returned (.agg #[.bool b1, .slice tb k cb])) w') := fun q w' hb => ⟨.inl ⟨q, by unfold RtV; rw [show (b1, b2).2.length = k from HMK.out.2]⟩, hb⟩
  have FA : Hid (btR (a1, a2) (b1, b2) = (a1, a2) → ∀ w', Below w.heap.size w w' → BtPost (a1, a2) (b1, b2) ta tb ca cb w (.returned (.agg #[.bool a1, .slice ta m ca])) w') := fun q w' hb => ⟨.inr ⟨q, by unfold RtV; rw [show (a1, a2).2.length = m from HMK.out.1]⟩, hb⟩
  cases b1
  case false =>
    have KK : Hid (btR (a1, a2) (false, b2) = (a1, a2)) := by show _ = _; rw [K0.out]; simp
    clear K0 HC FB HMK
    go_enter Try.func35, Try.ntmps35
    go_wp2
    exact bodyPost_ret (v := .agg #[.bool a1, .slice ta m ca]) (by simp [results, Try.results35, go_sem]) rfl (FA.out KK.out _ (by repeat (first | with_reducible exact Below.refl _ _ | with_reducible refine Below.setCell ?_ (by first | omega | (simp; done) | (simp; omega)) _ | with_reducible refine bDrewN ?_ _ | with_reducible refine Below.drew ?_ | with_reducible refine Below.alloc ?_ (by first | omega | (simp; done) | (simp; omega)) _)))
  case true =>
    cases a1
    case false =>
      have KK : Hid (btR (false, a2) (true, b2) = (true, b2)) := by show _ = _; rw [K0.out]; simp
      clear K0 HC FA HMK
      go_enter Try.func35, Try.ntmps35
      go_wp2
      exact bodyPost_ret (v := .agg #[.bool true, .slice tb k cb]) (by simp [results, Try.results35, go_sem]) rfl (FB.out KK.out _ (by repeat (first | with_reducible exact Below.refl _ _ | with_reducible refine Below.setCell ?_ (by first | omega | (simp; done) | (simp; omega)) _ | with_reducible refine bDrewN ?_ _ | with_reducible refine Below.drew ?_ | with_reducible refine Below.alloc ?_ (by first | omega | (simp; done) | (simp; omega)) _)))
    case true =>
      go_enter Try.func35, Try.ntmps35
      go_wp2_with fail
      refine (HC.out _ (H1.out.below (by repeat (first | with_reducible exact Below.refl _ _ | with_reducible refine Below.setCell ?_ (by first | omega | (simp; done) | (simp; omega)) _ | with_reducible refine bDrewN ?_ _ | with_reducible refine Below.drew ?_ | with_reducible refine Below.alloc ?_ (by first | omega | (simp; done) | (simp; omega)) _))) (H2.out.below (by repeat (first | with_reducible exact Below.refl _ _ | with_reducible refine Below.setCell ?_ (by first | omega | (simp; done) | (simp; omega)) _ | with_reducible refine bDrewN ?_ _ | with_reducible refine Below.drew ?_ | with_reducible refine Below.alloc ?_ (by first | omega | (simp; done) | (simp; omega)) _)))).mono ?_
      rintro e w2 ⟨rfl, rfl⟩
      cases hc : caB b2 a2
      case true =>
        have KK : Hid (btR (true, a2) (true, b2) = (true, b2)) := by show _ = _; rw [K0.out, hc]; simp
        clear K0 HC FA HMK hc
        go_wp2
        exact bodyPost_ret (v := .agg #[.bool true, .slice tb k cb]) (by simp [results, Try.results35, go_sem]) rfl (FB.out KK.out _ (by repeat (first | with_reducible exact Below.refl _ _ | with_reducible refine Below.setCell ?_ (by first | omega | (simp; done) | (simp; omega)) _ | with_reducible refine bDrewN ?_ _ | with_reducible refine Below.drew ?_ | with_reducible refine Below.alloc ?_ (by first | omega | (simp; done) | (simp; omega)) _)))
      case false =>
        have KK : Hid (btR (true, a2) (true, b2) = (true, a2)) := by show _ = _; rw [K0.out, hc]; simp
        clear K0 HC FB HMK hc
        go_wp2
        exact bodyPost_ret (v := .agg #[.bool true, .slice ta m ca]) (by simp [results, Try.results35, go_sem]) rfl (FA.out KK.out _ (by repeat (first | with_reducible exact Below.refl _ _ | with_reducible refine Below.setCell ?_ (by first | omega | (simp; done) | (simp; omega)) _ | with_reducible refine bDrewN ?_ _ | with_reducible refine Below.drew ?_ | with_reducible refine Below.alloc ?_ (by first | omega | (simp; done) | (simp; omega)) _)))
def RtPost (r : Rte) (b0 : Nat) (w : World) (e : Ending) (w' : World) : Prop := ∃ t c, e = .returned (RtV r t c) ∧ LstF b0 w' t c r.2 ∧ Below w.heap.size w w'
set_option maxRecDepth 20000 in
set_option maxHeartbeats 4000000 in
theorem from_any (r1 : Bool) (r2 : List Int) (t : Option Addr) (c : Nat) (p : Int) (w : World) (h1 : r2.length ≤ 48) (H1 : Hid (LstV w t c r2)) :
    Calls Try.prog 36 #[RtV (r1, r2) t c, .int .i64 p] w fun e w' => RtPost (frR (r1, r2) p) w.heap.size w e w' := by
  unfold RtV
  cases r1
  case false =>
    have KK : Hid (frR (false, r2) p = (false, [])) := rfl
    obtain ⟨m, hm⟩ : ∃ m, r2.length = m := ⟨_, rfl⟩
    simp only [hm]
    clear hm h1 H1
    go_enter Try.func36, Try.ntmps36
    go_wp2
    refine bodyPost_ret (v := .agg #[.bool false, .slice none 0 0]) (by simp [results, Try.results36, go_sem]) rfl ?_
    unfold RtPost
    rw [KK.out]
    exact ⟨none, 0, rfl, .inl ⟨rfl, rfl, rfl⟩, (by repeat (first | with_reducible exact Below.refl _ _ | with_reducible refine Below.setCell ?_ (by first | omega | (simp; done) | (simp; omega)) _ | with_reducible refine bDrewN ?_ _ | with_reducible refine Below.drew ?_ | with_reducible refine Below.alloc ?_ (by first | omega | (simp; done) | (simp; omega)) _))⟩
  case true =>
    have KK : Hid (frR (true, r2) p = (true, p :: r2)) := rfl
    have HCP : Hid (catP (fun j => if j = 0 then [p] else r2) 2 = p :: r2) := by show _ = _; simp [catP]
    have HLN : Hid (∀ j, j < 2 → (if j = 0 then [p] else r2).length ≤ 48) := fun j hj => by
      by_cases e : j = 0
      · rw [if_pos e]; simp
      · rw [if_neg e]; exact h1
    have HCC : Hid (∀ q W, TwoL W q (fun j => if j = 0 then some ⟨w.heap.size + 1 + 1, 0, none⟩ else t) (fun j => if j = 0 then 1 else c) (fun j => if j = 0 then [p] else r2) → Calls Try.prog 58 #[.slice (some ⟨q, 0, none⟩) 2 2] W fun e w' => ∃ v, e = .returned v ∧ OwnN W.heap.size w' v (p :: r2) ∧ Below W.heap.size W w') := fun q W hT => by
      have := concat2_any q _ _ _ W HLN.out hT
      rw [HCP.out] at this
      exact this
    obtain ⟨m, hm⟩ : ∃ m, r2.length = m := ⟨_, rfl⟩
    have HM : Hid (r2.length = m) := hm
    simp only [hm]
    clear hm h1 HLN HCP
    go_enter Try.func36, Try.ntmps36
    go_wp2_with fail
    obtain ⟨w1, hw1⟩ : ∃ z, z = ((((w.alloc (.cells #[.bool true, .slice t m c] 53)).alloc (.cells #[.bool false, .slice none 0 0] 53)).alloc (.cells #[.int .i64 p] 2)).alloc (.cells #[.slice (some ⟨w.heap.size + 1 + 1, 0, none⟩) 1 1, .slice t m c] 27)) := ⟨_, rfl⟩
    rw [← hw1]
    have b1 : Below w.heap.size w w1 := by rw [hw1]; exact (by repeat (first | with_reducible exact Below.refl _ _ | with_reducible refine Below.setCell ?_ (by first | omega | (simp; done) | (simp; omega)) _ | with_reducible refine bDrewN ?_ _ | with_reducible refine Below.drew ?_ | with_reducible refine Below.alloc ?_ (by first | omega | (simp; done) | (simp; omega)) _))
    have HT : Hid (TwoL w1 (w.heap.size + 1 + 1 + 1) (fun j => if j = 0 then some ⟨w.heap.size + 1 + 1, 0, none⟩ else t) (fun j => if j = 0 then 1 else c) (fun j => if j = 0 then [p] else r2)) := by
      refine ⟨by rw [hw1]; simp, fun j hj => ?_⟩
      rcases (show j = 0 ∨ j = 1 by omega) with rfl | rfl
      · refine ⟨by rw [hw1]; simp [go_sem], .inr ⟨by simp, w.heap.size + 1 + 1, rfl, by rw [hw1]; simp, fun i hi => ?_⟩⟩
        obtain rfl : i = 0 := by simp at hi; omega
        rw [hw1]
        simp [go_sem]
      · refine ⟨?_, H1.out.below b1⟩
        rw [hw1]
        simp [go_sem, HM.out]
    have d1 : w1.cell? ⟨w.heap.size + 1, 0, none⟩ = some (.bool false) := by rw [hw1]; simp (maxDischargeDepth := 12) [go_sem]
    have d2 : w1.cell? ⟨w.heap.size + 1, 1, none⟩ = some (.slice none 0 0) := by rw [hw1]; simp (maxDischargeDepth := 12) [go_sem]
    have d3 : ∀ o, w1.frozen? ⟨w.heap.size + 1, o, none⟩ = false := fun o => by rw [hw1]; simp (maxDischargeDepth := 12) [go_sem]
    have zw1 : w.heap.size + 1 < w1.heap.size := by rw [hw1]; simp
    have HB : Hid (Below w.heap.size w w1) := b1
    clear hw1 b1
    refine (HCC.out (w.heap.size + 1 + 1 + 1) w1 HT.out).mono ?_
    rintro e w2 ⟨v, rfl, hO, b2⟩
    obtain ⟨t', c', rfl, hF⟩ := hO.toF
    have HF : Hid (LstF w1.heap.size w2 t' c' (p :: r2)) := hF
    replace HB : Hid (Below w.heap.size w w2) := HB.out.trans (b2.mono HB.out.size)
    obtain ⟨gb, hgb⟩ : ∃ g, g = w.heap.size + 1 := ⟨_, rfl⟩
    have HGB : Hid (w.heap.size ≤ gb) := by show _ ≤ _; omega
    rw [← hgb] at d1 d2 d3 zw1 ⊢
    replace d1 := (b2.cell (p := ⟨gb, 0, none⟩) zw1).trans d1
    replace d2 := (b2.cell (p := ⟨gb, 1, none⟩) zw1).trans d2
    have d4 := (b2.frozen (p := ⟨gb, 0, none⟩) zw1).trans (d3 0)
    have d5 := (b2.frozen (p := ⟨gb, 1, none⟩) zw1).trans (d3 1)
    clear hF hO b2 HT HCC H1 hgb d3
    go_wp2
    refine bodyPost_ret (v := .agg #[.bool true, .slice t' (p :: r2).length c']) (by simp [results, Try.results36, go_sem, d1, d2]) rfl ?_
    unfold RtPost
    rw [KK.out]
    refine ⟨t', c', rfl, ?_, ?_⟩
    · exact ((HF.out.set zw1).set zw1).low (Nat.le_trans HGB.out (Nat.le_of_lt zw1))
    · exact (HB.out.trans ((Beside.setCell gb _ 0 _).below HGB.out HB.out.size)).trans ((Beside.setCell gb _ 1 _).below HGB.out (by simpa using HB.out.size))
set_option maxHeartbeats 2000000 in
theorem ofModeR (x md : Int) (pm : Nat) (w : World) (zp : pm < w.heap.size) (hc : w.cell? ⟨pm, 0, none⟩ = some (.int .i64 md)) : Calls Try.prog 33 #[.int .i64 x, .pointer (some ⟨pm, 0, none⟩)] w fun e w' => e = .returned (.agg #[.bool (x == md), .slice none 0 0]) ∧ Below w.heap.size w w' := by
  obtain ⟨b, hb⟩ : ∃ b, (x == md) = b := ⟨_, rfl⟩
  rw [hb]
  go_enter Try.func33, Try.ntmps33
  go_wp2
  exact bodyPost_ret (v := .agg #[.bool b, .slice none 0 0]) (by simp [results, Try.results33, go_sem]) rfl ⟨rfl, (by repeat (first | with_reducible exact Below.refl _ _ | with_reducible refine Below.setCell ?_ (by first | omega | (simp; done) | (simp; omega)) _ | with_reducible refine bDrewN ?_ _ | with_reducible refine Below.drew ?_ | with_reducible refine Below.alloc ?_ (by first | omega | (simp; done) | (simp; omega)) _))⟩
set_option maxHeartbeats 4000000 in
theorem ofStepR (p : Int) (a1 b1 : Bool) (a2 b2 : List Int) (ta tb : Option Addr) (ca cb : Nat) (w : World) (h1 : a2.length ≤ 48) (h2 : b2.length ≤ 48) (H1 : Hid (LstV w ta ca a2)) (H2 : Hid (LstV w tb cb b2)) :
    Calls Try.prog 34 #[.int .i64 p, RtV (a1, a2) ta ca, RtV (b1, b2) tb cb] w fun e w' => RtPost (frR (btR (a1, a2) (b1, b2)) p) w.heap.size w e w' := by
  have HBT : Hid (∀ W, LstV W ta ca a2 → LstV W tb cb b2 → Calls Try.prog 35 #[RtV (a1, a2) ta ca, RtV (b1, b2) tb cb] W fun e w' => BtPost (a1, a2) (b1, b2) ta tb ca cb W e w') := fun W q1 q2 => better_any a1 b1 a2 b2 ta tb ca cb W h1 h2 q1 q2
  have HFA : Hid (∀ W, LstV W ta ca a2 → Calls Try.prog 36 #[RtV (a1, a2) ta ca, .int .i64 p] W fun e w' => RtPost (frR (a1, a2) p) W.heap.size W e w') := fun W q => from_any a1 a2 ta ca p W h1 q
  have HFB : Hid (∀ W, LstV W tb cb b2 → Calls Try.prog 36 #[RtV (b1, b2) tb cb, .int .i64 p] W fun e w' => RtPost (frR (b1, b2) p) W.heap.size W e w') := fun W q => from_any b1 b2 tb cb p W h2 q
  unfold RtV at HBT HFA HFB ⊢
  simp only at HBT HFA HFB ⊢
  have HK : Hid (∀ r, btR (a1, a2) (b1, b2) = r → ∀ w1 w2 e, Below w.heap.size w w1 → RtPost (frR r p) w1.heap.size w1 e w2 → ∃ t c, e = .returned (.agg #[.bool (frR (btR (a1, a2) (b1, b2)) p).1, .slice t (frR (btR (a1, a2) (b1, b2)) p).2.length c]) ∧ LstF w1.heap.size w2 t c (frR (btR (a1, a2) (b1, b2)) p).2 ∧ Below w.heap.size w w2) := fun r hr w1 w2 e b1 hP => by
    unfold RtPost RtV at hP
    obtain ⟨t, c, he, hl, hb⟩ := hP
    rw [hr]
    exact ⟨t, c, he, hl, b1.trans (hb.mono b1.size)⟩
  go_enter Try.func34, Try.ntmps34
  go_wp2_with fail
  obtain ⟨w1, hw1⟩ : ∃ z, z = (((w.alloc (.cells #[.bool a1, .slice ta a2.length ca] 53)).alloc (.cells #[.bool b1, .slice tb b2.length cb] 53)).alloc (.cells #[.bool false, .slice none 0 0] 53)) := ⟨_, rfl⟩
  rw [← hw1]
  have b1_ : Below w.heap.size w w1 := by rw [hw1]; exact (by repeat (first | with_reducible exact Below.refl _ _ | with_reducible refine Below.setCell ?_ (by first | omega | (simp; done) | (simp; omega)) _ | with_reducible refine bDrewN ?_ _ | with_reducible refine Below.drew ?_ | with_reducible refine Below.alloc ?_ (by first | omega | (simp; done) | (simp; omega)) _))
  have d1 : w1.cell? ⟨w.heap.size + 1 + 1, 0, none⟩ = some (.bool false) := by rw [hw1]; simp (maxDischargeDepth := 12) [go_sem]
  have d2 : w1.cell? ⟨w.heap.size + 1 + 1, 1, none⟩ = some (.slice none 0 0) := by rw [hw1]; simp (maxDischargeDepth := 12) [go_sem]
  have d3 : ∀ o, w1.frozen? ⟨w.heap.size + 1 + 1, o, none⟩ = false := fun o => by rw [hw1]; simp (maxDischargeDepth := 12) [go_sem]
  have zw1 : w.heap.size + 1 + 1 < w1.heap.size := by rw [hw1]; simp
  have HB : Hid (Below w.heap.size w w1) := b1_
  obtain ⟨gb, hgb⟩ : ∃ g, g = w.heap.size + 1 + 1 := ⟨_, rfl⟩
  have HGB : Hid (w.heap.size ≤ gb) := by show _ ≤ _; omega
  rw [← hgb] at d1 d2 d3 zw1 ⊢
  replace H1 : Hid (LstV w1 ta ca a2) := H1.out.below b1_
  replace H2 : Hid (LstV w1 tb cb b2) := H2.out.below b1_
  clear hw1 b1_ hgb
  refine (HBT.out w1 H1.out H2.out).mono ?_
  rintro e w2 hP
  obtain ⟨hc, b2_⟩ := hP
  replace d1 := (b2_.cell (p := ⟨gb, 0, none⟩) zw1).trans d1
  replace d2 := (b2_.cell (p := ⟨gb, 1, none⟩) zw1).trans d2
  have d4 := (b2_.frozen (p := ⟨gb, 0, none⟩) zw1).trans (d3 0)
  have d5 := (b2_.frozen (p := ⟨gb, 1, none⟩) zw1).trans (d3 1)
  have zw2 : gb < w2.heap.size := Nat.lt_of_lt_of_le zw1 b2_.size
  replace H1 : Hid (LstV w2 ta ca a2) := H1.out.below b2_
  replace H2 : Hid (LstV w2 tb cb b2) := H2.out.below b2_
  replace HB : Hid (Below w.heap.size w w2) := HB.out.trans (b2_.mono HB.out.size)
  clear b2_ d3 zw1 HBT
  rcases hc with ⟨hr, rfl⟩ | ⟨hr, rfl⟩
  · have HR : Hid (btR (a1, a2) (b1, b2) = (b1, b2)) := hr
    clear hr
    unfold RtV
    simp only
    go_wp2_with fail
    refine (HFB.out w2 H2.out).mono ?_
    rintro e w3 hP
    have b3 : Below w2.heap.size w2 w3 := by unfold RtPost at hP; obtain ⟨_, _, _, _, q⟩ := hP; exact q
    obtain ⟨t', c', rfl, hl, hb⟩ := HK.out _ HR.out _ _ _ HB.out hP
    have HL : Hid (LstF w2.heap.size w3 t' c' (frR (btR (a1, a2) (b1, b2)) p).2) := hl
    replace HB : Hid (Below w.heap.size w w3) := hb
    replace d1 := (b3.cell (p := ⟨gb, 0, none⟩) zw2).trans d1
    replace d2 := (b3.cell (p := ⟨gb, 1, none⟩) zw2).trans d2
    replace d4 := (b3.frozen (p := ⟨gb, 0, none⟩) zw2).trans d4
    replace d5 := (b3.frozen (p := ⟨gb, 1, none⟩) zw2).trans d5
    have HZ : Hid (w.heap.size ≤ w2.heap.size) := Nat.le_trans HGB.out (Nat.le_of_lt zw2)
    clear hP b3 hl hb HFA HFB HK H1 H2 HR
    obtain ⟨rr, hrr⟩ : ∃ r, frR (btR (a1, a2) (b1, b2)) p = r := ⟨_, rfl⟩
    obtain ⟨r1, r2⟩ := rr
    have HRR : Hid (frR (btR (a1, a2) (b1, b2)) p = (r1, r2)) := hrr
    rw [hrr] at HL ⊢
    clear hrr
    simp only at HL ⊢
    go_wp2
    refine bodyPost_ret (v := .agg #[.bool r1, .slice t' r2.length c']) (by simp [results, Try.results34, go_sem, d1, d2]) rfl ?_
    unfold RtPost
    rw [HRR.out]
    refine ⟨t', c', rfl, ?_, ?_⟩
    · exact ((HL.out.set zw2).set zw2).low HZ.out
    · exact (HB.out.trans ((Beside.setCell gb _ 0 _).below HGB.out HB.out.size)).trans ((Beside.setCell gb _ 1 _).below HGB.out (by simpa using HB.out.size))
  · have HR : Hid (btR (a1, a2) (b1, b2) = (a1, a2)) := hr
    clear hr
    unfold RtV
    simp only
    go_wp2_with fail
    refine (HFA.out w2 H1.out).mono ?_
    rintro e w3 hP
    have b3 : Below w2.heap.size w2 w3 := by unfold RtPost at hP; obtain ⟨_, _, _, _, q⟩ := hP; exact q
    obtain ⟨t', c', rfl, hl, hb⟩ := HK.out _ HR.out _ _ _ HB.out hP
    have HL : Hid (LstF w2.heap.size w3 t' c' (frR (btR (a1, a2) (b1, b2)) p).2) := hl
    replace HB : Hid (Below w.heap.size w w3) := hb
    replace d1 := (b3.cell (p := ⟨gb, 0, none⟩) zw2).trans d1
    replace d2 := (b3.cell (p := ⟨gb, 1, none⟩) zw2).trans d2
    replace d4 := (b3.frozen (p := ⟨gb, 0, none⟩) zw2).trans d4
    replace d5 := (b3.frozen (p := ⟨gb, 1, none⟩) zw2).trans d5
    have HZ : Hid (w.heap.size ≤ w2.heap.size) := Nat.le_trans HGB.out (Nat.le_of_lt zw2)
    clear hP b3 hl hb HFA HFB HK H1 H2 HR
    obtain ⟨rr, hrr⟩ : ∃ r, frR (btR (a1, a2) (b1, b2)) p = r := ⟨_, rfl⟩
    obtain ⟨r1, r2⟩ := rr
    have HRR : Hid (frR (btR (a1, a2) (b1, b2)) p = (r1, r2)) := hrr
    rw [hrr] at HL ⊢
    clear hrr
    simp only at HL ⊢
    go_wp2
    refine bodyPost_ret (v := .agg #[.bool r1, .slice t' r2.length c']) (by simp [results, Try.results34, go_sem, d1, d2]) rfl ?_
    unfold RtPost
    rw [HRR.out]
    refine ⟨t', c', rfl, ?_, ?_⟩
    · exact ((HL.out.set zw2).set zw2).low HZ.out
    · exact (HB.out.trans ((Beside.setCell gb _ 0 _).below HGB.out HB.out.size)).trans ((Beside.setCell gb _ 1 _).below HGB.out (by simpa using HB.out.size))
end Go.Proofs.Ytlkegoofpmgcjaa
