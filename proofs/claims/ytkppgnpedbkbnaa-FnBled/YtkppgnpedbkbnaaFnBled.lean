/-
What is proved: of a drawn flow what is bled and what is left are the flow, nothing below 0; at every code, no condition.
-/
import Derived.Test.YtkppgnpedbkbnaaDrawB
import Derived.Test.YtkppgnpedbkbnaaBleed
import Derived.Test.YtkppgnpedbkbnaaOpen8
namespace Go.Proofs.Ytkppgnpedbkbnaa
set_option maxRecDepth 40000
open Go.ChangeShapes Go.WideShapes Go.ChangeAt Go.RowKit
set_option linter.unusedVariables false
set_option linter.unusedSimpArgs false

def sumTo (V : Nat → Int) : Nat → Int
  | 0 => 0
  | k + 1 => sumTo V k + V k
theorem sum_tak (F : Int) (V : Nat → Int) : ∀ k, sumTo (tak F V) k = F - flo F V k
  | 0 => by simp [sumTo, flo]
  | k + 1 => by
    have := sum_tak F V k
    show sumTo (tak F V) k + flo F V k * V k / 1000 = F - (flo F V k - flo F V k * V k / 1000)
    omega
set_option maxRecDepth 20000 in
set_option maxHeartbeats 1000000 in
theorem sum_any (s : Option Addr) (n c : Nat) (V : Nat → Int) (w : World) (hn : (n : Int) ≤ 1048576) (HR : Hid (RowI w s n V)) (HB : Hid (∀ k, k ≤ n → 0 ≤ sumTo V k ∧ sumTo V k ≤ 1000000000)) :
    Calls Try.prog 17 #[.slice s n c] w fun e w' => e = .returned (.int .i64 (sumTo V n)) ∧ w' = w := by
  go_enter Try.func17, Try.ntmps17
  go_wp2_with fail
  go_loop [3, 4] (fun q i => ∃ k : Nat, k ≤ n ∧ i = .int .i64 k ∧ q = .int .i64 (sumTo V k)) (fun _ i => n - (intOf i).toNat)
  case atStart => exact ⟨0, Nat.zero_le _, rfl, rfl⟩
  case round =>
    obtain ⟨k, hk, rfl, rfl⟩ := hrel
    by_cases h1 : k < n
    · obtain ⟨g, o, rfl, hg, c0⟩ := HR.out k h1
      have k1 : (k : Int) < (n : Int) := by omega
      obtain ⟨b0, b1⟩ := HB.out k hk
      have E : Hid (sumTo V (k + 1) = sumTo V k + V k) := rfl
      obtain ⟨d0, d1⟩ := HB.out (k + 1) (by omega)
      rw [E.out] at d0 d1
      go_wp2
      go_round
      case rel => exact ⟨k + 1, by omega, by go_num, by rw [E.out]⟩
      case measure => simp [intOf]; omega
    · obtain rfl : k = n := by omega
      go_wp2
      go_ret
      exact ⟨rfl, rfl⟩
set_option maxHeartbeats 400000 in
theorem fnBled_far (w : World) (s : Option Addr) (n c : Nat) (h : (1048576 : Int) < n) :
    Calls Try.prog 4 #[.slice s n c] w fun e w' => e = .returned (.bool true) ∧ Below w.heap.size w w' := by
  go_enter Try.func4, Try.ntmps4
  go_wp2_with fail
  refine (big_yes _ _ _ _ h).mono ?_
  rintro e w1 ⟨rfl, rfl⟩
  go_wp2
  go_ret
  exact ⟨rfl, Below.refl _ _⟩
theorem BleedV.one1 {F : Int} {n : Nat} {V : Nat → Int} {m m' : Nat} {r r' : Int} (h : BleedV F n V m r) (h' : BleedV F n V m' r') : m = m' ∧ r = r' := by
  rcases h with ⟨rfl, rfl, h⟩ | ⟨rfl, rfl, h⟩ <;> rcases h' with ⟨rfl, rfl, h'⟩ | ⟨rfl, rfl, h'⟩
  · exact ⟨rfl, rfl⟩
  · exact absurd h h'
  · exact absurd h' h
  · exact ⟨rfl, rfl⟩

set_option maxRecDepth 20000 in
set_option maxHeartbeats 4000000 in
theorem fnBled_near (w : World) (s : Option Addr) (n c : Nat) (hn : (n : Int) ≤ 1048576) (HC : Hid (Code8 w s n)) :
    Calls Try.prog 4 #[.slice s n c] w fun e w' => e = .returned (.bool true) ∧ Below w.heap.size w w' := by
  go_enter Try.func4, Try.ntmps4
  go_wp2_with fail
  refine (big_no _ _ _ _ hn).mono ?_
  rintro e w0 ⟨rfl, rfl⟩
  go_wp2_with fail
  refine (drawBleed_any HC.out).mono ?_
  rintro e w1 ⟨F, m, t, ct, V, rfl, hF, hm, R1, B1⟩
  have HR1 : Hid (RowI w1 t m V) := R1
  clear R1 HC
  go_wp2_with fail
  refine (specBleed_any F t m ct V _ (by omega) HR1.out).mono ?_
  rintro e w2 ⟨q, r, sW, cW, hv, rfl, OW, h2⟩
  have B2 : Below w0.heap.size w0 w2 := B1.trans (h2.mono B1.size)
  have HR2 : Hid (RowI w2 t m V) := HR1.out.below h2
  have HV : Hid (BleedV F m V q r) := hv
  clear OW h2 B1 HR1 hv
  go_wp2_with fail
  refine (implBleed_any F t m ct V _ (by omega) HR2.out).mono ?_
  rintro e w3 ⟨q', r', sG, cG, hv', rfl, OG, h3⟩
  obtain ⟨rfl, rfl⟩ := hv'.one1 HV.out
  have B3 : Below w0.heap.size w0 w3 := B2.trans (h3.mono B2.size)
  have HG : Hid (RowI w3 sG q' (tak F V)) := OG.row
  clear OG h3 B2 hv' HR2
  rcases HV.out with ⟨rfl, rfl, F0, F1, m1, hP⟩ | ⟨rfl, rfl, hno⟩
  · have HP : Hid (partOk V q') := hP
    obtain ⟨f0, f1⟩ := flo_bd F0 F1 q' hP
    have SB : Hid (∀ k, k ≤ q' → 0 ≤ sumTo (tak F V) k ∧ sumTo (tak F V) k ≤ 1000000000) := fun k hk => by
      have := flo_bd F0 F1 k (fun j hj => hP j (by omega))
      rw [sum_tak]
      refine ⟨?_, by omega⟩
      have mono : ∀ k, k ≤ q' → flo F V k ≤ F := fun k => by
        induction k with
        | zero => intro _; exact Int.le_refl _
        | succ i ih =>
          intro hi
          have b := flo_bd F0 F1 i (fun j hj => hP j (by omega))
          have v := hP i (by omega)
          have := bl_prod b.1 b.2 v.1 v.2
          have := ih (by omega)
          show flo F V i - flo F V i * V i / 1000 ≤ F
          omega
      have := mono k hk
      omega
    have SE : Hid (sumTo (tak F V) q' = F - flo F V q') := sum_tak F V q'
    have TK : Hid (∀ k, k < q' → 0 ≤ tak F V k) := fun k hk => by
      have b := flo_bd F0 F1 k (fun j hj => hP j (by omega))
      have v := hP k hk
      exact (bl_prod b.1 b.2 v.1 v.2).2.2.2
    obtain ⟨L, hL⟩ : ∃ L, L = flo F V q' := ⟨_, rfl⟩
    rw [← hL] at f0 f1 SE ⊢
    have SU : Hid (∀ w, RowI w sG q' (tak F V) → Calls Try.prog 17 #[.slice sG q' cG] w fun e w' => e = .returned (.int .i64 (F - L)) ∧ w' = w) := fun w R => by
      have := sum_any sG q' cG (tak F V) w (by omega) R SB.out
      rw [SE.out] at this
      exact this
    have fl : 0 ≤ F - L ∧ F - L ≤ 1000000000 := by have := SB.out q' (Nat.le_refl _); rw [SE.out] at this; exact this
    obtain ⟨fl0, fl1⟩ := fl
    clear hL hP HV SB SE
    have q1 : (q' : Int) ≤ 100 := by omega
    go_wp2_with fail
    go_loop [9] (fun i => ∃ k : Nat, k ≤ q' ∧ i = .int .i64 k) (fun i => q' - (intOf i).toNat)
    case atStart => exact ⟨0, Nat.zero_le _, rfl⟩
    case round =>
      obtain ⟨k, hk, rfl⟩ := hrel
      by_cases hlt : k < q'
      · obtain ⟨g, o, rfl, hg, c0⟩ := HG.out k hlt
        have k1 : (k : Int) < (q' : Int) := by omega
        have t0 := TK.out k hlt
        go_wp2
        go_round
        case rel => exact ⟨k + 1, by omega, by go_num⟩
        case measure => simp [intOf]; omega
      · obtain rfl : k = q' := by omega
        go_wp2_with fail
        refine (SU.out _ HG.out).mono ?_
        rintro e w3 ⟨rfl, rfl⟩
        go_wp2
        go_ret
        exact ⟨by simp, B3⟩
  · go_wp2
    go_ret
    exact ⟨rfl, B3⟩

theorem fnBled_walk (w : World) (s : Option Addr) (n c : Nat) (hn : n ≤ 9223372036854775807) (R : Bytes w s n) :
    Calls Try.prog 4 #[.slice s n c] w fun e w' => e = .returned (.bool true) ∧ Below w.heap.size w w' := by
  by_cases h : n ≤ 1048576
  · exact fnBled_near w s n c (by omega) (R.code h)
  · exact fnBled_far w s n c (by omega)

set_option maxRecDepth 100000 in
theorem fnBled_lifted (os : Os) (started : os.Started) (H : Type) (enc : TypeId × Value → H) :
    ReturnsInHanded {} Try.checked os 4 .any (Rows.fnBledSpec.pre6 enc Try.prog Try.f4 Rows.fnBledRow.domain false) (Rows.fnBledSpec.post enc Try.prog Try.f4 false true false false) := by
  refine returnsInHanded_of_change (C := Try.checked) own started (by kernel_rfl) Try.func4
    (ChangeSpec.witness6 (enc := enc) (C := Try.checked) false ⟨#[], #[.slice none 0 0], []⟩ 8 (by kernel_rfl) (by kernel_rfl) (by kernel_rfl) (by kernel_rfl)) ?_
  intro W base args ds gs before hval0 hW hcnd _
  have hval : ∀ (j : Nat) t v, Try.f4.params[j]? = some t → args[j]? = some v → Value.okWide Try.prog W .any base t v := hval0
  have hW' := hW
  obtain ⟨p, q, hA0, hV, rfl, hfz, hnd⟩ := hW
  have hA : DataW.TrodAll enc Try.prog W 0 (fun _ => true) true Try.f4.params.toList args.toList ds p := hA0
  rw [Try.params4] at hA hval
  obtain ⟨v0, vs0, d0, ds0, p0, q0, hargs, rfl, rfl, h0, r0⟩ := trodAll_cons hA
  obtain ⟨rfl, rfl, rfl⟩ := trodAll_nil r0
  obtain rfl : args = #[v0] := by cases args; simp_all
  obtain ⟨rfl, rfl⟩ := trodVars_none hV
  have k0 := h0
  have lt0 : ∀ x ∈ p0, x.block < W.heap.size := by obtain ⟨m, hm⟩ := k0; exact DataW.trod_lt m _ _ _ hm
  obtain ⟨s0, n0, c0, rfl, m0, R0⟩ := open_code Try.underlying22 Try.underlying5 (by kernel_rfl) (hval 0 22 v0 rfl rfl) h0
  clear hA0 hval0
  refine (fnBled_walk W s0 n0 c0 m0 R0).mono fun e W' ⟨he, bel⟩ => ?_
  subst he
  exact ⟨_, rfl, _, _, _, [], _, [], hW', trodAll_mk1 (shut_bool Try.underlying4 _), (trodAll_cons_mk (Below.trod laidOut (by kernel_rfl) (of_decide_eq_true (by kernel_rfl)) k0 bel lt0) trodAll_mk0), rfl, bel.frame _, fun h => by cases h⟩

theorem fnBled_holds : Rows.FnBledSaid :=
  OpenClaim.holds_of_wide 4 Try.f4 rfl rfl rfl rfl rfl rfl rfl ⟨rfl, rfl, rfl, rfl, rfl⟩ rfl rfl rfl rfl rfl (by kernel_rfl) Try.func4 (by kernel_rfl)
    (of_decide_eq_true (by kernel_rfl)) (by unfold Func.isWrapper; first | (rw [if_pos (by decide +kernel)]; kernel_rfl) | (rw [if_neg (by decide +kernel)]; exact ⟨rfl, rfl⟩))
    (fun os started H enc _ => fnBled_lifted os started H enc)
#print axioms fnBled_holds
end Go.Proofs.Ytkppgnpedbkbnaa
