/-
What is proved: at every list of swings and every list of knots impl.Life answers as the specification's Life and leaves both lists alone; no condition.
-/
import Derived.Test.YtenibgjoojcpkaaLifeI
import Derived.Test.YtenibgjoojcpkaaSwings
import Derived.Test.YtenibgjoojcpkaaEqF
import Derived.Test.YtenibgjoojcpkaaOpenKnots
namespace Go.Proofs.Ytenibgjoojcpkaa
set_option maxRecDepth 40000
open Go.ChangeShapes Go.WideShapes Go.ChangeAt Go.RowKit
set_option linter.unusedVariables false

set_option maxHeartbeats 400000 in
theorem life_far1 (w : World) (s s2 : Option Addr) (n c n2 c2 : Nat) (h : (1048576 : Int) < n) (h' : (n : Int) ≤ 9223372036854775807) :
    Calls Try.prog 8 #[.slice s n c, .slice s2 n2 c2] w fun e w' => e = .returned (.bool true) ∧ Below w.heap.size w w' := by
  go_enter Try.func8, Try.ntmps8
  go_wp2_with fail
  refine (szSwingS_off s n c _ _ (by omega) (by omega) h h').mono ?_
  rintro e w1 ⟨rfl, rfl⟩
  go_wp2
  go_ret
  exact ⟨rfl, Below.refl _ _⟩
set_option maxHeartbeats 400000 in
theorem life_far2 (w : World) (s s2 : Option Addr) (n c n2 c2 : Nat) (h : (n : Int) ≤ 1048576) (h2 : 1048576 - (n : Int) < n2) (h2' : (n2 : Int) ≤ 9223372036854775807) :
    Calls Try.prog 8 #[.slice s n c, .slice s2 n2 c2] w fun e w' => e = .returned (.bool true) ∧ Below w.heap.size w w' := by
  go_enter Try.func8, Try.ntmps8
  go_wp2_with fail
  refine (szSwingS_on s n c _ _ (by omega) (by omega) h).mono ?_
  rintro e w1 ⟨rfl, rfl⟩
  go_wp2_with fail
  refine (szKnotS_off s2 n2 c2 _ _ (by omega) (by omega) h2 h2').mono ?_
  rintro e w1 ⟨rfl, rfl⟩
  go_wp2
  go_ret
  exact ⟨rfl, Below.refl _ _⟩

set_option maxRecDepth 20000 in
set_option maxHeartbeats 4000000 in
theorem life_near (w : World) (s s2 : Option Addr) (n c n2 c2 : Nat) (V V2 : Nat → Int) (h : (n : Int) ≤ 1048576) (h2 : (n2 : Int) ≤ 1048576 - (n : Int)) (HR : Hid (RowI w s (n * 2) V)) (HC : Hid (RowI w s2 (n2 * 2) V2)) (a b : Int) (ok : Bool)
    (H1 : Hid (∀ s c s2 c2 w, RowI w s (n * 2) V → RowI w s2 (n2 * 2) V2 → Calls Try.prog 38 #[.slice s n c, .slice s2 n2 c2] w fun e w' => e = .returned (.tuple #[.agg #[.int .i64 a, .int .i64 b], .bool ok]) ∧ Below w.heap.size w w'))
    (H2 : Hid (∀ s c s2 c2 w, RowI w s (n * 2) V → RowI w s2 (n2 * 2) V2 → Calls Try.prog 41 #[.slice s n c, .slice s2 n2 c2] w fun e w' => e = .returned (.tuple #[.agg #[.int .i64 a, .int .i64 b], .bool ok]) ∧ Below w.heap.size w w')) :
    Calls Try.prog 8 #[.slice s n c, .slice s2 n2 c2] w fun e w' => e = .returned (.bool true) ∧ Below w.heap.size w w' := by
  go_enter Try.func8, Try.ntmps8
  go_wp2_with fail
  refine (szSwingS_on s n c _ _ (by omega) (by omega) h).mono ?_
  rintro e w ⟨rfl, rfl⟩
  go_wp2_with fail
  refine (szKnotS_on s2 n2 c2 _ _ (by omega) (by omega) h2).mono ?_
  rintro e w ⟨rfl, rfl⟩
  go_wp2_with fail
  refine (toSwingS_any s n c V _ h HR).mono ?_
  rintro e w1 ⟨b1, rfl, _, z1, R1, h1⟩
  have B1 := h1
  have HR1 : Hid (RowI w1 (some ⟨b1, 0, none⟩) (n * 2) V) := R1
  clear R1
  go_wp2_with fail
  refine (toKnotS_any s2 n2 c2 V2 _ (by omega) (HC.out.below B1)).mono ?_
  rintro e w2 ⟨b2, rfl, _, z2, R2, h2'⟩
  have B2 : Below w.heap.size w w2 := B1.trans (h2'.mono B1.size)
  have HR2 : Hid (RowI w2 (some ⟨b2, 0, none⟩) (n2 * 2) V2) := R2
  have HR1 : Hid (RowI w2 (some ⟨b1, 0, none⟩) (n * 2) V) := HR1.out.below h2'
  clear R2 h2' h1 B1
  go_wp2_with fail
  refine (H1.out _ _ _ _ _ HR1.out HR2.out).mono ?_
  rintro e w3 ⟨rfl, h3⟩
  have B3 : Below w.heap.size w w3 := B2.trans (h3.mono B2.size)
  have zs3 : w.heap.size ≤ w3.heap.size := B3.size
  have HRs : Hid (∀ ob, RowI (w3.alloc ob) s (n * 2) V) := fun ob => (HR.out.below B3).below (below0 w3 ob)
  clear h3 HR1 HR2 B2 z1 z2
  go_wp2_with fail
  refine (toSwingS_any s n c V _ h (HRs.out _)).mono ?_
  rintro e w4 ⟨b4, rfl, _, z4, R4, h4⟩
  have B4 : Below w.heap.size w w4 := Below.trans (by repeat (first | with_reducible exact Below.refl _ _ | with_reducible exact B3 | with_reducible refine Below.setCell ?_ (by first | omega | (simp; done) | (simp; omega)) _ | with_reducible refine bDrewN ?_ _ | with_reducible refine Below.drew ?_ | with_reducible refine Below.alloc ?_ (by first | omega | (simp; done) | (simp; omega)) _)) (h4.mono (by first | omega | (simp; done) | (simp; omega)))
  have zz4 := h4.size
  simp at zz4
  have q0 : w4.cell? ⟨w3.heap.size, 0, none⟩ = some (.int .i64 a) := (h4.cell (p := ⟨w3.heap.size, 0, none⟩) (by simp)).trans (by simp [go_sem])
  have q1 : w4.cell? ⟨w3.heap.size, 1, none⟩ = some (.int .i64 b) := (h4.cell (p := ⟨w3.heap.size, 1, none⟩) (by simp)).trans (by simp [go_sem])
  have l4 : w3.heap.size < w4.heap.size := by omega
  have HR4 : Hid (RowI w4 (some ⟨b4, 0, none⟩) (n * 2) V) := R4
  clear R4 h4 zz4
  go_wp2_with fail
  refine (toKnotS_any s2 n2 c2 V2 _ (by omega) (HC.out.below B4)).mono ?_
  rintro e w5 ⟨b5, rfl, _, z5, R5, h5⟩
  have B5 : Below w.heap.size w w5 := B4.trans (h5.mono B4.size)
  have HR5 : Hid (RowI w5 (some ⟨b5, 0, none⟩) (n2 * 2) V2) := R5
  have HR4 : Hid (RowI w5 (some ⟨b4, 0, none⟩) (n * 2) V) := HR4.out.below h5
  have q0 : w5.cell? ⟨w3.heap.size, 0, none⟩ = some (.int .i64 a) := (h5.cell (p := ⟨w3.heap.size, 0, none⟩) l4).trans q0
  have q1 : w5.cell? ⟨w3.heap.size, 1, none⟩ = some (.int .i64 b) := (h5.cell (p := ⟨w3.heap.size, 1, none⟩) l4).trans q1
  have l5 : w3.heap.size < w5.heap.size := Nat.lt_of_lt_of_le l4 h5.size
  clear R5 h5
  go_wp2_with fail
  refine (H2.out _ _ _ _ _ HR4.out HR5.out).mono ?_
  rintro e w6 ⟨rfl, h6⟩
  have B6 : Below w.heap.size w w6 := B5.trans (h6.mono B5.size)
  have HR5 : Hid (RowI w6 (some ⟨b5, 0, none⟩) (n2 * 2) V2) := HR5.out.below h6
  have HR4 : Hid (RowI w6 (some ⟨b4, 0, none⟩) (n * 2) V) := HR4.out.below h6
  have q0 : w6.cell? ⟨w3.heap.size, 0, none⟩ = some (.int .i64 a) := (h6.cell (p := ⟨w3.heap.size, 0, none⟩) l5).trans q0
  have q1 : w6.cell? ⟨w3.heap.size, 1, none⟩ = some (.int .i64 b) := (h6.cell (p := ⟨w3.heap.size, 1, none⟩) l5).trans q1
  have l6 : w3.heap.size < w6.heap.size := Nat.lt_of_lt_of_le l5 h6.size
  have zs6 : w.heap.size ≤ w6.heap.size := B6.size
  clear h6
  go_wp2_with fail
  refine (eqFrac_any a b _).mono ?_
  rintro e w7 ⟨rfl, h7⟩
  have g7 : Below w6.heap.size w6 w7 := Below.trans (by repeat (first | with_reducible exact Below.refl _ _ | with_reducible refine Below.setCell ?_ (by first | omega | (simp; done) | (simp; omega)) _ | with_reducible refine bDrewN ?_ _ | with_reducible refine Below.drew ?_ | with_reducible refine Below.alloc ?_ (by first | omega | (simp; done) | (simp; omega)) _)) (h7.mono (by first | omega | (simp; done) | (simp; omega)))
  have B7 : Below w.heap.size w w7 := B6.trans (g7.mono B6.size)
  have HR5 : Hid (RowI w7 (some ⟨b5, 0, none⟩) (n2 * 2) V2) := HR5.out.below g7
  have HR4 : Hid (RowI w7 (some ⟨b4, 0, none⟩) (n * 2) V) := HR4.out.below g7
  clear h7 g7 q0 q1
  go_wp2_with fail
  refine (toSwingS_any s n c V _ h (HR.out.below B7)).mono ?_
  rintro e w8 ⟨b8, rfl, _, z8, R8, h8⟩
  have B8 : Below w.heap.size w w8 := B7.trans (h8.mono B7.size)
  have HR8 : Hid (RowI w8 (some ⟨b8, 0, none⟩) (n * 2) V) := R8
  have HR5 : Hid (RowI w8 (some ⟨b5, 0, none⟩) (n2 * 2) V2) := HR5.out.below h8
  have HR4 : Hid (RowI w8 (some ⟨b4, 0, none⟩) (n * 2) V) := HR4.out.below h8
  clear R8 h8
  go_wp2_with fail
  refine (eqSwingS_any _ _ n _ _ V _ h HR4.out HR8.out).mono ?_
  rintro e w9 ⟨rfl, h9⟩
  have B9 : Below w.heap.size w w9 := B8.trans (h9.mono B8.size)
  have HR5 : Hid (RowI w9 (some ⟨b5, 0, none⟩) (n2 * 2) V2) := HR5.out.below h9
  clear h9 HR4 HR8
  go_wp2_with fail
  refine (toKnotS_any s2 n2 c2 V2 _ (by omega) (HC.out.below B9)).mono ?_
  rintro e w10 ⟨b10, rfl, _, z10, R10, h10⟩
  have B10 : Below w.heap.size w w10 := B9.trans (h10.mono B9.size)
  have HR10 : Hid (RowI w10 (some ⟨b10, 0, none⟩) (n2 * 2) V2) := R10
  have HR5 : Hid (RowI w10 (some ⟨b5, 0, none⟩) (n2 * 2) V2) := HR5.out.below h10
  clear R10 h10
  go_wp2_with fail
  refine (eqKnotS_any _ _ n2 _ _ V2 _ (by omega) HR5.out HR10.out).mono ?_
  rintro e w11 ⟨rfl, h11⟩
  have B11 : Below w.heap.size w w11 := B10.trans (h11.mono B10.size)
  go_wp2
  go_ret
  exact ⟨rfl, B11⟩

theorem fnExactLife_walk (w : World) (s : Option Addr) (n c : Nat) (V : Nat → Int) (hn : n ≤ 9223372036854775807) (R : RowI w s (n * 2) V) (s2 : Option Addr) (n2 c2 : Nat) (V2 : Nat → Int) (hn2 : n2 ≤ 9223372036854775807) (R2 : RowI w s2 (n2 * 2) V2) :
    Calls Try.prog 8 #[.slice s n c, .slice s2 n2 c2] w fun e w' => e = .returned (.bool true) ∧ Below w.heap.size w w' := by
  by_cases h : n ≤ 1048576
  · by_cases h2 : (n2 : Int) ≤ 1048576 - (n : Int)
    · obtain ⟨a, b, ok, hv⟩ := life_some n n2 V V2
      exact life_near w s s2 n c n2 c2 V V2 (by omega) h2 R R2 a b ok
        (fun s c s2 c2 w q q2 => (specLife_any s s2 n c n2 c2 V V2 w (by omega) q q2).mono fun e w' ⟨⟨a', b', ok', k1, k2⟩, k3⟩ => by obtain ⟨rfl, rfl, rfl⟩ := k1.one hv; exact ⟨k2, k3⟩)
        (fun s c s2 c2 w q q2 => (implLife_any s s2 n c n2 c2 V V2 w (by omega) q q2).mono fun e w' ⟨⟨a', b', ok', k1, k2⟩, k3⟩ => by obtain ⟨rfl, rfl, rfl⟩ := k1.one hv; exact ⟨k2, k3⟩)
    · exact life_far2 w s s2 n c n2 c2 (by omega) (by omega) (by omega)
  · exact life_far1 w s s2 n c n2 c2 (by omega) (by omega)

set_option maxRecDepth 100000 in
theorem fnExactLife_lifted (os : Os) (started : os.Started) (H : Type) (enc : TypeId × Value → H) :
    ReturnsInHanded {} Try.checked os 8 .any (Rows.fnExactLifeSpec.pre6 enc Try.prog Try.f8 Rows.fnExactLifeRow.domain false) (Rows.fnExactLifeSpec.post enc Try.prog Try.f8 false true false false) := by
  refine returnsInHanded_of_change (C := Try.checked) own started (by kernel_rfl) Try.func8
    (ChangeSpec.witness6 (enc := enc) (C := Try.checked) false ⟨#[], #[.slice none 0 0, .slice none 0 0], []⟩ 8 (by kernel_rfl) (by kernel_rfl) (by kernel_rfl) (by kernel_rfl)) ?_
  intro W base args ds gs before hval0 hW hcnd _
  have hval : ∀ (j : Nat) t v, Try.f8.params[j]? = some t → args[j]? = some v → Value.okWide Try.prog W .any base t v := hval0
  have hW' := hW
  obtain ⟨p, q, hA0, hV, rfl, hfz, hnd⟩ := hW
  have hA : DataW.TrodAll enc Try.prog W 0 (fun _ => true) true Try.f8.params.toList args.toList ds p := hA0
  rw [Try.params8] at hA hval
  obtain ⟨v0, vs0, d0, ds0, p0, q0, hargs, rfl, rfl, h0, r0⟩ := trodAll_cons hA
  obtain ⟨v1, vs1, d1, ds1, p1, q1, rfl, rfl, rfl, h1, r1⟩ := trodAll_cons r0
  obtain ⟨rfl, rfl, rfl⟩ := trodAll_nil r1
  obtain rfl : args = #[v0, v1] := by cases args; simp_all
  obtain ⟨rfl, rfl⟩ := trodVars_none hV
  have k0 := h0
  have lt0 : ∀ x ∈ p0, x.block < W.heap.size := by obtain ⟨m, hm⟩ := k0; exact DataW.trod_lt m _ _ _ hm
  have k1 := h1
  have lt1 : ∀ x ∈ p1, x.block < W.heap.size := by obtain ⟨m, hm⟩ := k1; exact DataW.trod_lt m _ _ _ hm
  obtain ⟨s0, n0, c0, V0, rfl, m0, R0⟩ := open_pairs Try.underlying56 Try.underlying101 (by kernel_rfl) rfl rfl (by kernel_rfl) (by kernel_rfl) (by kernel_rfl) (by kernel_rfl) (hval 0 56 v0 rfl rfl) h0
  obtain ⟨s1, n1, c1, V1, rfl, m1, R1⟩ := open_pairs Try.underlying57 Try.underlying105 (by kernel_rfl) rfl rfl (by kernel_rfl) (by kernel_rfl) (by kernel_rfl) (by kernel_rfl) (hval 1 57 v1 rfl rfl) h1
  clear hA0 hval0
  refine (fnExactLife_walk W s0 n0 c0 V0 m0 R0 s1 n1 c1 V1 m1 R1).mono fun e W' ⟨he, bel⟩ => ?_
  subst he
  exact ⟨_, rfl, _, _, _, [], _, [], hW', trodAll_mk1 (shut_bool Try.underlying4 _), (trodAll_cons_mk (Below.trod laidOut (by kernel_rfl) (of_decide_eq_true (by kernel_rfl)) k0 bel lt0) (trodAll_cons_mk (Below.trod laidOut (by kernel_rfl) (of_decide_eq_true (by kernel_rfl)) k1 bel lt1) trodAll_mk0)), rfl, bel.frame _, fun h => by cases h⟩

theorem fnExactLife_holds : Rows.FnExactLifeSaid :=
  OpenClaim.holds_of_wide 8 Try.f8 rfl rfl rfl rfl rfl rfl rfl ⟨rfl, rfl, rfl, rfl, rfl⟩ rfl rfl rfl rfl rfl (by kernel_rfl) Try.func8 (by kernel_rfl)
    (of_decide_eq_true (by kernel_rfl)) (by unfold Func.isWrapper; first | (rw [if_pos (by decide +kernel)]; kernel_rfl) | (rw [if_neg (by decide +kernel)]; exact ⟨rfl, rfl⟩))
    (fun os started H enc _ => fnExactLife_lifted os started H enc)
#print axioms fnExactLife_holds
end Go.Proofs.Ytenibgjoojcpkaa
