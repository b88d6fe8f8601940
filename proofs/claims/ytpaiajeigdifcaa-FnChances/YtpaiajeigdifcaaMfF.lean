/-
What is proved: slices.SortStableFunc at sets, and sortedBy: a sorted list of the call's own.
-/
import Derived.Test.YtpaiajeigdifcaaMfE
import Derived.Test.YtpaiajeigdifcaaMfO
import Derived.Deep.RegionHeldLaw
import Derived.Deep.DeepCutAuto
namespace Go.Proofs.Ytpaiajeigdifcaa
set_option maxRecDepth 40000
open Go.ChangeShapes Go.WideShapes Go.ChangeAt Go.RowKit
set_option linter.unusedVariables false
set_option linter.unusedSimpArgs false

theorem ins_zero (t : Option Addr) (cp : Nat) (fv : Value) (w : World) :
    Calls Try.prog 106 #[.slice t 0 cp, .int .i64 0, .int .i64 0, fv] w fun e w' => (e = .returned (.tuple #[])) ∧ Below w.heap.size w w' := by
  go_enter Try.func106, Try.ntmps106
  go_wp2_with fail
  go_loopw [8] (fun q wr => q = .int .i64 1 ∧ Hid (Below w.heap.size w wr)) (fun q _ => 0)
  case atStart => exact ⟨rfl, Below.refl _ _⟩
  case round =>
    obtain ⟨rfl, HB⟩ := hrel
    go_wp2
    go_end0
    exact ⟨rfl, HB.out⟩
theorem stable_zero (t : Option Addr) (cp : Nat) (fv : Value) (w : World) :
    Calls Try.prog 102 #[.slice t 0 cp, .int .i64 0, fv] w fun e w' => (e = .returned (.tuple #[])) ∧ Below w.heap.size w w' := by
  go_enter Try.func102, Try.ntmps102
  go_wp2_with fail
  go_loopw [7, 8] (fun u v wr => (u = .int .i64 0 ∧ v = .int .i64 20) ∧ Hid (Below w.heap.size w wr)) (fun _ _ _ => 0)
  case atStart => exact ⟨⟨rfl, rfl⟩, Below.refl _ _⟩
  case round =>
    obtain ⟨⟨rfl, rfl⟩, HB⟩ := hrel
    go_wp2_with fail
    refine (ins_zero t cp fv _).mono ?_
    rintro e w3 ⟨rfl, b3⟩
    have HB3 : Hid (Below w.heap.size w w3) := HB.out.trans (b3.mono HB.out.size)
    clear b3 HB
    go_wp2_with fail
    go_loopw [6] (fun q wr => q = .int .i64 20 ∧ Hid (Below w.heap.size w wr)) (fun _ _ => 0)
    case atStart => exact ⟨rfl, HB3⟩
    case round =>
      clear HB3
      obtain ⟨rfl, HB⟩ := hrel
      go_wp2
      go_end0
      exact ⟨rfl, HB.out⟩
theorem sortStable_zero (t : Option Addr) (cp : Nat) (fv : Value) (w : World) :
    Calls Try.prog 94 #[.slice t 0 cp, fv] w fun e w' => (e = .returned (.tuple #[])) ∧ Below w.heap.size w w' := by
  go_enter Try.func94, Try.ntmps94
  go_wp2_with fail
  refine (stable_zero t cp fv _).mono ?_
  rintro e w3 ⟨rfl, b3⟩
  have HB3 : Hid (Below w.heap.size w w3) := b3
  clear b3
  go_wp2
  go_end0
  exact ⟨rfl, HB3.out⟩
theorem sortStable_any (B n cp : Nat) (c1 c2 : Value) (Ok : Int → Prop) (Cap : World → Prop) (lt : Int → Int → Prop) (tr : ∀ x y z, lt x y → lt y z → lt x z) (tot : ∀ x y, x < y → ¬ lt y x → lt x y) (hn : n ≤ 1000) (HM : Hid (CmpK Ok Cap lt c1 c2)) (HK : Hid (CapK B Cap)) (V : Nat → Int) (w : World) (HD : Hid (DatF w B n V)) (HC : Hid (Cap w)) (HA : Hid (SortS (· < ·) V 0 n)) (HO : Hid (∀ k, k < n → Ok (V k))) :
    Calls Try.prog 94 #[.slice (some ⟨B, 0, none⟩) n cp, .func (.func 82) #[] #[]] w fun e w' => (e = .returned (.tuple #[])) ∧ (∃ W, SortS lt W 0 n ∧ SameS V W 0 n ∧ DatF w' B n W) ∧ Turn (fun q => q = B) w w' := by
  go_enter Try.func94, Try.ntmps94
  go_wp2_with fail
  refine (stable_any B n cp c1 c2 Ok Cap lt tr tot hn HM HK V _ HD HC HA HO).mono ?_
  rintro e w3 ⟨rfl, h3⟩
  have H3 : Hid ((∃ W, SortS lt W 0 n ∧ SameS V W 0 n ∧ DatF w3 B n W) ∧ Turn (fun q => q = B) w w3) := h3
  clear h3
  go_wp2
  go_end0
  exact ⟨rfl, H3.out.1, H3.out.2⟩
theorem list_cloneS {ops : Array Oper} {rest : List Oper} {o : Oper} {a : Act} {Q : Exit → Act → World → Prop} {W : World} (H : Nat) (ad : Addr) (n c : Nat) (V : Nat → Int) (s z : Operand) (hgd : o.guard = none)
    (ho : o.op = .call { callee := .builtin .append, args := #[s, z], argTypes := #[70, 70] }) (hs : a.eval s = .slice (some ⟨H, 0, none⟩) 0 0) (hx : a.eval z = .slice (some ad) n c) (hH : W.heap.size = H) (hn : n ≤ 1048576) (R : RowU W (some ad) n V)
    (h : ∀ v w', w'.ownsRow W.heap.size 65 1 v n (valsU V n) → Below W.heap.size W w' → wpList Try.prog ops Q rest (a.put o.dst v) w') :
    wpList Try.prog ops Q (o :: rest) a (W.alloc (.cells #[] 65)) := by
  subst hH
  obtain ⟨i0, hi, hz0, hz1, hz2⟩ := info_parts info_set
  have hm := made_litU W V (Nat.le_refl _)
  have R' : RowU (W.alloc (.cells #[] 65)) (some ad) n V := R.below (by repeat (first | with_reducible exact Below.refl _ _ | with_reducible refine Below.setCell ?_ (by first | omega | (simp; done) | (simp; omega)) _ | with_reducible refine bDrewN ?_ _ | with_reducible refine Below.drew ?_ | with_reducible refine Below.alloc ?_ (by first | omega | (simp; done) | (simp; omega)) _))
  refine wpList_append_own _ hgd s z 70 ho W.heap.size 65 i0 (.int .u32 0) 1 4 Try.underlying70 hi hz0 hz1 hz2 rfl (by decide) _ 0 [] hs hm.1 ad n c (valsU V n) hx (by rw [valsU_length, Nat.mul_one]) (row_addU R') ?_ (by unfold maxLen; omega) (by omega) (by simp) ?_
  · intro u hu
    simp only [valsU, List.mem_map] at hu
    obtain ⟨j, _, rfl⟩ := hu
    rfl
  · intro v' w' h2 h3 _
    rw [Nat.zero_add, List.nil_append] at h2
    exact h v' w' h2 (hm.2.trans (grown_below h3 (by simp) (own_block hm.1)))
theorem eq_nilS (c : Nat) (w : World) : (binOp .eql 70 (.slice none 0 c) (.slice none 0 0)).run Try.prog w = .ok (.bool true) w := by kernel_rfl
/-- A list of the call's own, in a block of its own. -/
def OwnS (base : Nat) (w' : World) (v : Value) (n : Nat) (V : Nat → Int) : Prop := (v = .slice none 0 0 ∧ n = 0) ∨ ∃ B cp, v = .slice (some ⟨B, 0, none⟩) n cp ∧ base ≤ B ∧ DatF w' B n V
theorem ownS_of {w : World} {base n : Nat} {v : Value} {V : Nat → Int} (h : w.ownsRow base 65 1 v n (valsU V n)) : OwnS base w v n V := by
  rcases h.2 with ⟨q1, q2⟩ | ⟨g, cap, cur, rfl, hb, hg, _, _, _, _⟩
  · exact Or.inl ⟨q1, q2⟩
  · refine Or.inr ⟨g, cap, rfl, hb, (Array.getElem?_eq_some_iff.1 hg).1, fun o => h.frozenAt o, fun k hk => ?_⟩
    rw [h.cellAt k (by rw [Nat.mul_one]; exact hk), valsU_at V hk]
set_option maxHeartbeats 1000000 in
theorem clone_S (s : Option Addr) (n c : Nat) (V : Nat → Int) (w : World) (hn : (n : Int) ≤ 1048576) (HR : Hid (RowU w s n V)) :
    Calls Try.prog 93 #[.slice s n c] w fun e w' => ∃ v, e = .returned v ∧ OwnS w.heap.size w' v n V ∧ Below w.heap.size w w' := by
  cases s with
  | none =>
    obtain rfl : n = 0 := by
      rcases Nat.eq_zero_or_pos n with h | h
      · exact h
      · obtain ⟨b, o, e, _⟩ := HR.out 0 h; cases e
    have hEq := eq_nilS c
    go_enter Try.func93, Try.ntmps93
    go_wp2
    go_ret
    exact ⟨_, rfl, Or.inl ⟨rfl, rfl⟩, Below.refl _ _⟩
  | some ad =>
    have hEq := eq_nilU ad n c
    go_enter Try.func93, Try.ntmps93
    go_wp2_with (first | (refine list_cloneS _ ad n c V _ _ (by rfl) (by rfl) (by rfl) (by rfl) rfl (by omega) HR.out ?_; intro v w' O h))
    go_ret
    exact ⟨v, rfl, ownS_of O, h⟩
def SortedPost (lt : Int → Int → Prop) (V : Nat → Int) (n : Nat) (w : World) (e : Ending) (w' : World) : Prop := ∃ s' c' W, e = .returned (.slice s' n c') ∧ OwnU w.heap.size w' s' n W ∧ SortS lt W 0 n ∧ SameS V W 0 n ∧ Below w.heap.size w w'
set_option maxHeartbeats 1000000 in
theorem sortedBy_any (s : Option Addr) (n c : Nat) (c1 c2 : Value) (Ok : Int → Prop) (lt : Int → Int → Prop) (tr : ∀ x y z, lt x y → lt y z → lt x z) (tot : ∀ x y, x < y → ¬ lt y x → lt x y) (hn : n ≤ 1000) (V : Nat → Int) (w : World) (HM : Hid (CmpK Ok (fun w' => Below w.heap.size w w') lt c1 c2)) (HR : Hid (RowU w s n V)) (HA : Hid (SortS (· < ·) V 0 n)) (HO : Hid (∀ k, k < n → Ok (V k))) :
    Calls Try.prog 81 #[.slice s n c, .func (.func 82) #[] #[]] w fun e w' => SortedPost lt V n w e w' := by
  go_enter Try.func81, Try.ntmps81
  go_wp2_with fail
  refine (clone_S s n c V _ (by omega) HR).mono ?_
  rintro e w3 ⟨v, rfl, O3, b3⟩
  have HB3 : Hid (Below w.heap.size w w3) := b3
  rcases O3 with ⟨rfl, rfl⟩ | ⟨B, cp, rfl, hB, D3⟩
  · clear b3
    go_wp2_with fail
    refine (sortStable_zero none 0 _ _).mono ?_
    rintro e w4 ⟨rfl, b4⟩
    have HB4 : Hid (Below w.heap.size w w4) := HB3.out.trans (b4.mono HB3.out.size)
    clear b4 HB3
    go_wp2
    go_ret
    exact ⟨none, 0, V, rfl, fun j hj => by omega, SortS.one lt V (by omega), SameS.refl _ _ _, HB4.out⟩
  · have HD3 : Hid (DatF w3 B n V) := D3
    have HK : Hid (CapK B (fun w' => Below w.heap.size w w')) := fun x y hx ht => ⟨ht.1.trans hx.os, ht.2.1.trans hx.tape, ht.2.2.1.trans hx.output, Nat.le_trans hx.size ht.2.2.2.1, fun k hk => (ht.2.2.2.2 k (Nat.lt_of_lt_of_le hk hx.size) (fun e => by omega)).trans (hx.block k hk)⟩
    have HhB : Hid (w.heap.size ≤ B) := hB
    clear b3 D3 hB
    go_wp2_with fail
    refine (sortStable_any B n cp c1 c2 Ok (fun w' => Below w.heap.size w w') lt tr tot hn HM HK V _ HD3 HB3 HA HO).mono ?_
    rintro e w4 ⟨rfl, ⟨W, x1, x2, D4⟩, T4⟩
    have HB4 : Hid (Below w.heap.size w w4) := HK.out _ _ HB3.out T4
    have HP : Hid (OwnU w.heap.size w4 (some ⟨B, 0, none⟩) n W ∧ SortS lt W 0 n ∧ SameS V W 0 n) := ⟨fun j hj => ⟨B, rfl, HhB.out, D4.1, D4.2.2 j hj, D4.2.1 j⟩, x1, x2⟩
    clear T4 D4 x1 x2 HB3 HD3 HK HhB
    go_wp2
    go_ret
    exact ⟨_, cp, W, rfl, HP.out.1, HP.out.2.1, HP.out.2.2, HB4.out⟩
end Go.Proofs.Ytpaiajeigdifcaa
