/-
What is proved: at every code a step of the battery that is drawn from it keeps its book, and what it lacks and what it gave are the load; no condition.
-/
import Derived.Test.YtdoekgnmbdekgaaBaD
import Derived.Test.YtdoekgnmbdekgaaBatS
import Derived.Test.YtdoekgnmbdekgaaOpen8
import Derived.BigQuiet
import Derived.Deep.QuietTactic
namespace Go.Proofs.Ytdoekgnmbdekgaa
set_option maxRecDepth 40000
open Go.ChangeShapes Go.WideShapes Go.ChangeAt Go.RowKit
set_option linter.unusedVariables false
set_option linter.unusedSimpArgs false

/-- What a step's book holds. -/
structure Book (C M G F l f c1 m1 g1 f1 y : Int) : Prop where
  b1 : 0 ≤ G ∧ G ≤ 1000000000000
  b2 : 0 ≤ F ∧ F ≤ 1000000000000
  b3 : 0 ≤ g1 ∧ g1 ≤ 2000000000000
  b4 : 0 ≤ f1 ∧ f1 ≤ 2000000000000
  b5 : 0 ≤ y ∧ y ≤ 1000000000
  k1 : c1 = f1 - g1
  k2 : 0 ≤ c1
  k3 : c1 ≤ m1
  k4 : m1 = M
  k5 : g1 - G + y = l
  k7 : f1 - F ≤ f
  k8 : y = 0 ∨ c1 = 0
theorem book_of {C M G F l f : Int} (h : stpB C M G F l f = true) : Book C M G F l f (nC C M G F l f) (nM C M G F l f) (nG C M G F l f) (nF C M G F l f) (nL C M G F l f) := by
  have h2 := h
  unfold stpB at h2
  simp only [Bool.and_eq_true] at h2
  obtain ⟨hx, hy⟩ := h2
  obtain ⟨⟨x1, x2⟩, ⟨x3, x4⟩, ⟨x5, x6⟩, ⟨x7, x8⟩, x9⟩ := bat_yes hx
  obtain ⟨⟨u1, u2⟩, ⟨v1, v2⟩, l1, l2⟩ := mov_yes hy
  obtain ⟨m0, m1, m2⟩ := in_is C M f x2 v1
  obtain ⟨n0, n1, n2⟩ := out_is (C + inV C M f) l (by omega) u1
  have n3 : outB (C + inV C M f) l = l ∨ outB (C + inV C M f) l = C + inV C M f := by unfold outB; split <;> simp
  unfold nC nM nG nF nL
  simp only [h, if_true]
  constructor <;> omega
set_option maxHeartbeats 400000 in
theorem fnBatteryBook_far (w : World) (s : Option Addr) (n c : Nat) (h : (1048576 : Int) < n) :
    Calls Try.prog 6 #[.slice s n c] w fun e w' => e = .returned (.bool true) ∧ Below w.heap.size w w' := by
  go_enter Try.func6, Try.ntmps6
  go_wp2_with fail
  refine (big_yes _ _ _ _ h).mono ?_
  rintro e w1 ⟨rfl, rfl⟩
  go_wp2
  go_ret
  exact ⟨rfl, Below.refl _ _⟩
theorem cells4 {W W' : World} {p : Nat} {a0 a1 a2 a3 : Value} (h0 : W.cell? ⟨p, 0, none⟩ = some a0) (h1 : W.cell? ⟨p, 1, none⟩ = some a1) (h2 : W.cell? ⟨p, 2, none⟩ = some a2) (h3 : W.cell? ⟨p, 3, none⟩ = some a3) (zp : p < W.heap.size) (hb : Below W.heap.size W W') : W'.cell? ⟨p, 0, none⟩ = some a0 ∧ W'.cell? ⟨p, 1, none⟩ = some a1 ∧ W'.cell? ⟨p, 2, none⟩ = some a2 ∧ W'.cell? ⟨p, 3, none⟩ = some a3 := keepBa h0 h1 h2 h3 zp hb
set_option maxRecDepth 20000 in
set_option maxHeartbeats 8000000 in
theorem fnBatteryBook_near (w : World) (s : Option Addr) (n c : Nat) (hn : (n : Int) ≤ 1048576) (HC : Hid (Code8 w s n)) :
    Calls Try.prog 6 #[.slice s n c] w fun e w' => e = .returned (.bool true) ∧ Below w.heap.size w w' := by
  go_enter Try.func6, Try.ntmps6
  go_wp2_with fail
  refine (big_no _ _ _ _ hn).mono ?_
  rintro e w0 ⟨rfl, e0⟩
  subst w0
  go_wp2_with fail
  refine (drawBatteryStep_any HC).mono ?_
  rintro e w1 ⟨C, M, G, F, l, f, rfl, B1⟩
  have H1 : Hid (∀ w, Calls Try.prog 14 #[.agg #[.int .i64 C, .int .i64 M, .int .i64 G, .int .i64 F], .int .i64 l, .int .i64 f] w fun e w' => e = .returned (.tuple #[.agg #[.int .i64 (nC C M G F l f), .int .i64 (nM C M G F l f), .int .i64 (nG C M G F l f), .int .i64 (nF C M G F l f)], .int .i64 (nL C M G F l f), .bool (stpB C M G F l f)]) ∧ Below w.heap.size w w') := fun w => specBat_any C M G F l f w
  have H2 : Hid (∀ w, Calls Try.prog 16 #[.agg #[.int .i64 C, .int .i64 M, .int .i64 G, .int .i64 F], .int .i64 l, .int .i64 f] w fun e w' => e = .returned (.tuple #[.agg #[.int .i64 (nC C M G F l f), .int .i64 (nM C M G F l f), .int .i64 (nG C M G F l f), .int .i64 (nF C M G F l f)], .int .i64 (nL C M G F l f), .bool (stpB C M G F l f)]) ∧ Below w.heap.size w w') := fun w => implBat_any C M G F l f w
  have BK : Hid (stpB C M G F l f = true → Book C M G F l f (nC C M G F l f) (nM C M G F l f) (nG C M G F l f) (nF C M G F l f) (nL C M G F l f)) := fun h => book_of h
  obtain ⟨c1, e1⟩ : ∃ x, nC C M G F l f = x := ⟨_, rfl⟩
  obtain ⟨m1, e2⟩ : ∃ x, nM C M G F l f = x := ⟨_, rfl⟩
  obtain ⟨g1, e3⟩ : ∃ x, nG C M G F l f = x := ⟨_, rfl⟩
  obtain ⟨f1, e4⟩ : ∃ x, nF C M G F l f = x := ⟨_, rfl⟩
  obtain ⟨y, e5⟩ : ∃ x, nL C M G F l f = x := ⟨_, rfl⟩
  obtain ⟨ok, e6⟩ : ∃ x, stpB C M G F l f = x := ⟨_, rfl⟩
  rw [e1, e2, e3, e4, e5, e6] at H1 H2 BK
  clear e1 e2 e3 e4 e5 e6
  have s1 := B1.size
  go_upto_region 4 with fail
  obtain ⟨wd, hwd⟩ : ∃ wd, wd = (w1.alloc (.cells #[.int .i64 C, .int .i64 M, .int .i64 G, .int .i64 F] 34)) := ⟨_, rfl⟩
  rw [← hwd]
  have c0 : wd.cell? ⟨w1.heap.size, 0, none⟩ = some (.int .i64 C) := by rw [hwd]; simp [go_sem]
  have c1' : wd.cell? ⟨w1.heap.size, 1, none⟩ = some (.int .i64 M) := by rw [hwd]; simp [go_sem]
  have c2 : wd.cell? ⟨w1.heap.size, 2, none⟩ = some (.int .i64 G) := by rw [hwd]; simp [go_sem]
  have c3 : wd.cell? ⟨w1.heap.size, 3, none⟩ = some (.int .i64 F) := by rw [hwd]; simp [go_sem]
  have zc : w1.heap.size < wd.heap.size := by rw [hwd]; simp
  have BD : Below w.heap.size w wd := B1.trans (by rw [hwd]; exact Below.mono (show Below w1.heap.size w1 _ from (by repeat (first | with_reducible exact Below.refl _ _ | with_reducible refine Below.setCell ?_ (by first | omega | (simp; done) | (simp; omega)) _ | with_reducible refine bDrewN ?_ _ | with_reducible refine Below.drew ?_ | with_reducible refine Below.alloc ?_ (by first | omega | (simp; done) | (simp; omega)) _))) s1)
  have sd := BD.size
  clear hwd B1 s1 HC
  go_wp2_with fail
  refine (H1.out _).mono ?_
  rintro e w2 ⟨rfl, h2⟩
  obtain ⟨c0, c1', c2, c3⟩ := cells4 c0 c1' c2 c3 zc h2
  replace zc := Nat.lt_of_lt_of_le zc h2.size
  have B2 : Below w.heap.size w w2 := BD.trans (h2.mono sd)
  have s2 := B2.size
  clear h2 BD sd
  go_upto_region 5 with fail
  obtain ⟨we, hwe⟩ : ∃ we, we = (w2.alloc (.cells #[.int .i64 c1, .int .i64 m1, .int .i64 g1, .int .i64 f1] 34)) := ⟨_, rfl⟩
  rw [← hwe]
  have BE : Below w2.heap.size w2 we := by rw [hwe]; exact (by repeat (first | with_reducible exact Below.refl _ _ | with_reducible refine Below.setCell ?_ (by first | omega | (simp; done) | (simp; omega)) _ | with_reducible refine bDrewN ?_ _ | with_reducible refine Below.drew ?_ | with_reducible refine Below.alloc ?_ (by first | omega | (simp; done) | (simp; omega)) _))
  obtain ⟨c0, c1', c2, c3⟩ := cells4 c0 c1' c2 c3 zc BE
  replace zc := Nat.lt_of_lt_of_le zc BE.size
  replace B2 : Below w.heap.size w we := B2.trans (BE.mono s2)
  replace s2 := B2.size
  clear hwe BE
  go_wp2_with fail
  refine (H2.out _).mono ?_
  rintro e w3 ⟨rfl, h3⟩
  obtain ⟨c0, c1', c2, c3⟩ := cells4 c0 c1' c2 c3 zc h3
  replace zc := Nat.lt_of_lt_of_le zc h3.size
  have B3 : Below w.heap.size w w3 := B2.trans (h3.mono s2)
  have s3 := B3.size
  clear h3 B2 s2
  cases ok
  · go_wp2
    go_ret
    exact ⟨rfl, (by repeat (first | with_reducible exact Below.refl _ _ | with_reducible exact B3 | with_reducible refine Below.setCell ?_ (by first | omega | (simp; done) | (simp; omega)) _ | with_reducible refine bDrewN ?_ _ | with_reducible refine Below.drew ?_ | with_reducible refine Below.alloc ?_ (by first | omega | (simp; done) | (simp; omega)) _))⟩
  · obtain ⟨⟨b1, b1'⟩, ⟨b2, b2'⟩, ⟨b3, b3'⟩, ⟨b4, b4'⟩, ⟨b5, b5'⟩, k1, k2, k3, k4, k5, k7, k8⟩ := BK.out rfl
    subst k4
    have t1 : (c1 == f1 - g1) = true := by simpa using k1
    have t2 : decide (0 ≤ c1) = true := by simpa using k2
    have t3 : decide (c1 ≤ m1) = true := by simpa using k3
    have t5 : (g1 - G + y == l) = true := by simpa using k5
    have t6 : decide (0 ≤ y) = true := by simpa using b5
    have t7 : decide (f1 - F ≤ f) = true := by simpa using k7
    have ne : ¬ w3.heap.size = w1.heap.size := by omega
    clear H1 H2 BK
    rcases k8 with k8 | k8
    · have t8 : (y == 0) = true := by simpa using k8
      clear k8
      go_wp2
      all_goals
        go_ret
        exact ⟨by first | rfl | exact ret_bool (by simp [t1, t2, t3, t5, t6, t7, t8]), (by repeat (first | with_reducible exact Below.refl _ _ | with_reducible exact B3 | with_reducible refine Below.setCell ?_ (by first | omega | (simp; done) | (simp; omega)) _ | with_reducible refine bDrewN ?_ _ | with_reducible refine Below.drew ?_ | with_reducible refine Below.alloc ?_ (by first | omega | (simp; done) | (simp; omega)) _))⟩
    · have t9 : (c1 == 0) = true := by simpa using k8
      have K9 : Hid (f1 - g1 = 0) := show f1 - g1 = 0 by omega
      clear k8
      cases t8 : (y == 0)
      all_goals
        go_wp2
        all_goals
          go_ret
          refine ⟨?_, (by repeat (first | with_reducible exact Below.refl _ _ | with_reducible exact B3 | with_reducible refine Below.setCell ?_ (by first | omega | (simp; done) | (simp; omega)) _ | with_reducible refine bDrewN ?_ _ | with_reducible refine Below.drew ?_ | with_reducible refine Below.alloc ?_ (by first | omega | (simp; done) | (simp; omega)) _))⟩
          first | rfl | (refine ret_bool ?_; simp [t1, t2, t3, t5, t6, t7, t8, t9]; done) | (refine ret_bool ?_; simp [t1, t2, t3, t5, t6, t7, t8, t9]; exact K9.out)
theorem fnBatteryBook_walk (w : World) (s : Option Addr) (n c : Nat) (m0 : n ≤ 9223372036854775807) (R : Bytes w s n) :
    Calls Try.prog 6 #[.slice s n c] w fun e w' => e = .returned (.bool true) ∧ Below w.heap.size w w' := by
  by_cases h : n ≤ 1048576
  · exact fnBatteryBook_near w s n c (by omega) (R.code h)
  · exact fnBatteryBook_far w s n c (by omega)

set_option maxRecDepth 100000 in
theorem fnBatteryBook_lifted (os : Os) (started : os.Started) (H : Type) (enc : TypeId × Value → H) :
    ReturnsInHanded {} Try.checked os 6 .any (Rows.fnBatteryBookSpec.pre6 enc Try.prog Try.f6 Rows.fnBatteryBookRow.domain false) (Rows.fnBatteryBookSpec.post enc Try.prog Try.f6 false true false false) := by
  refine returnsInHanded_of_change (C := Try.checked) own started (by kernel_rfl) Try.func6
    (ChangeSpec.witness6 (enc := enc) (C := Try.checked) false ⟨#[], #[.slice none 0 0], []⟩ 8 (by kernel_rfl) (by kernel_rfl) (by kernel_rfl) (by kernel_rfl)) ?_
  intro W base args ds gs before hval0 hW hcnd _
  have hval : ∀ (j : Nat) t v, Try.f6.params[j]? = some t → args[j]? = some v → Value.okWide Try.prog W .any base t v := hval0
  have hW' := hW
  obtain ⟨p, q, hA0, hV, rfl, hfz, hnd⟩ := hW
  have hA : DataW.TrodAll enc Try.prog W 0 (fun _ => true) true Try.f6.params.toList args.toList ds p := hA0
  rw [Try.params6] at hA hval
  obtain ⟨v0, vs0, d0, ds0, p0, q0, hargs, rfl, rfl, h0, r0⟩ := trodAll_cons hA
  obtain ⟨rfl, rfl, rfl⟩ := trodAll_nil r0
  obtain rfl : args = #[v0] := by cases args; simp_all
  obtain ⟨rfl, rfl⟩ := trodVars_none hV
  have k0 := h0
  have lt0 : ∀ x ∈ p0, x.block < W.heap.size := by obtain ⟨m, hm⟩ := k0; exact DataW.trod_lt m _ _ _ hm
  obtain ⟨s0, n0, c0, rfl, m0, R0⟩ := open_code Try.underlying42 Try.underlying5 (by kernel_rfl) (hval 0 42 v0 rfl rfl) h0
  clear hA0 hval0
  refine (fnBatteryBook_walk W s0 n0 c0 m0 R0).mono fun e W' ⟨he, bel⟩ => ?_
  subst he
  exact ⟨_, rfl, _, _, _, [], _, [], hW', trodAll_mk1 (shut_bool Try.underlying4 _), (trodAll_cons_mk (Below.trod laidOut (by kernel_rfl) (of_decide_eq_true (by kernel_rfl)) k0 bel lt0) trodAll_mk0), rfl, bel.frame _, fun h => by cases h⟩

theorem fnBatteryBook_holds : Rows.FnBatteryBookSaid :=
  OpenClaim.holds_of_wide 6 Try.f6 rfl rfl rfl rfl rfl rfl rfl ⟨rfl, rfl, rfl, rfl, rfl⟩ rfl rfl rfl rfl rfl (by kernel_rfl) Try.func6 (by kernel_rfl)
    (of_decide_eq_true (by kernel_rfl)) (by unfold Func.isWrapper; first | (rw [if_pos (by decide +kernel)]; kernel_rfl) | (rw [if_neg (by decide +kernel)]; exact ⟨rfl, rfl⟩))
    (fun os started H enc _ => fnBatteryBook_lifted os started H enc)
#print axioms fnBatteryBook_holds
end Go.Proofs.Ytdoekgnmbdekgaa
