/-
What is proved: at every drum, right or not, and every list of acts impl.DrumRun answers as the specification's DrumRun and leaves the list alone; no condition.
-/
import Derived.Test.YteaohjcnlalapadRunS
import Derived.Test.YteaohjcnlalapadRunI
namespace Go.Proofs.Yteaohjcnlalapad
open Go.ChangeShapes Go.WideShapes Go.ChangeAt Go.RowKit
set_option linter.unusedVariables false

theorem run_upto (x : T7) (A : Nat → Int) : ∀ m : Nat, (∀ j, j < m → okK x A j = true) ∨ ∃ k, k < m ∧ (∀ j, j < k → okK x A j = true) ∧ okK x A k = false
  | 0 => .inl fun j hj => by omega
  | m + 1 => by
    rcases run_upto x A m with h | ⟨k, h1, h2, h3⟩
    · cases q : okK x A m
      · exact .inr ⟨m, by omega, h, q⟩
      · refine .inl fun j hj => ?_
        by_cases e : j = m
        · rw [e]; exact q
        · exact h j (by omega)
    · exact .inr ⟨k, by omega, h2, h3⟩
theorem run_exists (x : T7) (A : Nat → Int) (n : Nat) : ∃ v, RunV x A n v := by
  cases g : goB x n
  · exact ⟨_, .inl ⟨g, rfl⟩⟩
  · rcases run_upto x A n with h | ⟨k, h1, h2, h3⟩
    · exact ⟨_, .inr ⟨g, n, Nat.le_refl _, h, .inl rfl, rfl⟩⟩
    · exact ⟨_, .inr ⟨g, k, by omega, h2, .inr h3, rfl⟩⟩

set_option maxHeartbeats 400000 in
theorem drumRun_far (x0 x1 x2 x3 x4 x5 x6 : Int) (w : World) (s : Option Addr) (n c : Nat) (Z : Hid (∀ w, Calls Try.prog 16 #[.slice s n c, .int .i64 1048576] w fun e w' => e = .returned (.int .i64 (-1)) ∧ w' = w)) :
    Calls Try.prog 6 #[.agg #[.int .i64 x0, .int .i64 x1, .int .i64 x2, .int .i64 x3, .int .i64 x4, .int .i64 x5, .int .i64 x6], .slice s n c] w fun e w' => e = .returned (.bool true) ∧ Below w.heap.size w w' := by
  go_enter Try.func6, Try.ntmps6
  go_wp2_with fail
  refine (Z.out _).mono ?_
  rintro e w1 ⟨rfl, rfl⟩
  go_wp2
  go_ret
  exact ⟨rfl, (by repeat (first | with_reducible exact Below.refl _ _ | with_reducible refine Below.setCell ?_ (by first | omega | (simp; done) | (simp; omega)) _ | with_reducible refine bDrewN ?_ _ | with_reducible refine Below.drew ?_ | with_reducible refine Below.alloc ?_ (by first | omega | (simp; done) | (simp; omega)) _))⟩

set_option maxHeartbeats 1000000 in
theorem drumRun_near (x0 x1 x2 x3 x4 x5 x6 y0 y1 y2 y3 y4 y5 y6 z : Int) (w : World) (s : Option Addr) (n c : Nat) (V : Nat → Int) (l : Int) (l0 : 0 ≤ l) (HR : Hid (RowI w s (n * 3) V))
    (Z : Hid (∀ w, Calls Try.prog 16 #[.slice s n c, .int .i64 1048576] w fun e w' => e = .returned (.int .i64 l) ∧ w' = w))
    (T : Hid (∀ s c w, RowI w s (n * 3) V → Calls Try.prog 18 #[.slice s n c] w fun e w' => ∃ b, e = .returned (.slice (some ⟨b, 0, none⟩) n n) ∧ w.heap.size ≤ b ∧ b < w'.heap.size ∧ RowI w' (some ⟨b, 0, none⟩) (n * 3) V ∧ Below w.heap.size w w'))
    (H1 : Hid (∀ s c w, RowI w s (n * 3) V → Calls Try.prog 17 #[.agg #[.int .i64 x0, .int .i64 x1, .int .i64 x2, .int .i64 x3, .int .i64 x4, .int .i64 x5, .int .i64 x6], .slice s n c] w fun e w' => e = .returned (.tuple #[.agg #[.int .i64 y0, .int .i64 y1, .int .i64 y2, .int .i64 y3, .int .i64 y4, .int .i64 y5, .int .i64 y6], .int .i64 z]) ∧ Below w.heap.size w w'))
    (H2 : Hid (∀ s c w, RowI w s (n * 3) V → Calls Try.prog 19 #[.agg #[.int .i64 x0, .int .i64 x1, .int .i64 x2, .int .i64 x3, .int .i64 x4, .int .i64 x5, .int .i64 x6], .slice s n c] w fun e w' => e = .returned (.tuple #[.agg #[.int .i64 y0, .int .i64 y1, .int .i64 y2, .int .i64 y3, .int .i64 y4, .int .i64 y5, .int .i64 y6], .int .i64 z]) ∧ Below w.heap.size w w'))
    (Q : Hid (∀ s t c d w, RowI w s (n * 3) V → RowI w t (n * 3) V → Calls Try.prog 20 #[.slice s n c, .slice t n d] w fun e w' => e = .returned (.bool true) ∧ Below w.heap.size w w')) :
    Calls Try.prog 6 #[.agg #[.int .i64 x0, .int .i64 x1, .int .i64 x2, .int .i64 x3, .int .i64 x4, .int .i64 x5, .int .i64 x6], .slice s n c] w fun e w' => e = .returned (.bool true) ∧ Below w.heap.size w w' := by
  go_enter Try.func6, Try.ntmps6
  go_wp2_with fail
  refine (Z.out _).mono ?_
  rintro e w1 ⟨rfl, rfl⟩
  go_wp2_with fail
  refine (toDrum_any x0 x1 x2 x3 x4 x5 x6 _).mono ?_
  rintro e w2 ⟨rfl, h2⟩
  have B2 : Below w.heap.size w w2 := Below.trans (by repeat (first | with_reducible exact Below.refl _ _ | with_reducible refine Below.setCell ?_ (by first | omega | (simp; done) | (simp; omega)) _ | with_reducible refine bDrewN ?_ _ | with_reducible refine Below.drew ?_ | with_reducible refine Below.alloc ?_ (by first | omega | (simp; done) | (simp; omega)) _)) (h2.mono (by first | omega | (simp; done) | (simp; omega)))
  have HR2 : Hid (RowI w2 s (n * 3) V) := HR.out.below B2
  have z2 : w.heap.size < w2.heap.size := by have := h2.size; simp at this; omega
  go_wp2_with fail
  refine (T.out _ _ _ HR2.out).mono ?_
  rintro e w3 ⟨b, rfl, _, _, R3, h3⟩
  have HR3 : Hid (RowI w3 (some ⟨b, 0, none⟩) (n * 3) V) := R3
  have C3 := Below.trans h2 (h3.mono h2.size)
  clear R3
  go_wp2_with fail
  refine (H1.out _ _ _ HR3.out).mono ?_
  rintro e w4 ⟨rfl, h4⟩
  have C4 := Below.trans C3 (h4.mono C3.size)
  obtain ⟨q0, q1, q2, q3, q4, q5, q6⟩ := keep7 C4
  have B4 : Below w.heap.size w w4 := B2.trans ((Below.trans h3 (h4.mono h3.size)).mono B2.size)
  have z4 : w.heap.size < w4.heap.size := by have := B4.size; have := h3.size; have := h4.size; omega
  have HR4 : Hid (∀ ob, RowI (w4.alloc ob) s (n * 3) V) := fun ob => (HR.out.below B4).below (below0 w4 ob)
  clear h2 h3 h4 C3 C4
  go_wp2_with fail
  refine (T.out _ _ _ (HR4.out _)).mono ?_
  rintro e w5 ⟨b', rfl, _, _, R5, h5⟩
  have HR5 : Hid (RowI w5 (some ⟨b', 0, none⟩) (n * 3) V) := R5
  have B5 : Below w.heap.size w w5 := Below.trans (by repeat (first | with_reducible exact Below.refl _ _ | with_reducible exact B4 | with_reducible refine Below.setCell ?_ (by first | omega | (simp; done) | (simp; omega)) _ | with_reducible refine bDrewN ?_ _ | with_reducible refine Below.drew ?_ | with_reducible refine Below.alloc ?_ (by first | omega | (simp; done) | (simp; omega)) _)) (h5.mono (by first | omega | (simp; done) | (simp; omega)))
  have C5 : Below w4.heap.size w4 w5 := Below.trans (by repeat (first | with_reducible exact Below.refl _ _ | with_reducible refine Below.setCell ?_ (by first | omega | (simp; done) | (simp; omega)) _ | with_reducible refine bDrewN ?_ _ | with_reducible refine Below.drew ?_ | with_reducible refine Below.alloc ?_ (by first | omega | (simp; done) | (simp; omega)) _)) (h5.mono (by first | omega | (simp; done) | (simp; omega)))
  have p0 : w5.cell? ⟨w.heap.size, 0, none⟩ = some (.int .i64 x0) := (C5.cell (p := ⟨w.heap.size, 0, none⟩) z4).trans q0
  have p1 : w5.cell? ⟨w.heap.size, 1, none⟩ = some (.int .i64 x1) := (C5.cell (p := ⟨w.heap.size, 1, none⟩) z4).trans q1
  have p2 : w5.cell? ⟨w.heap.size, 2, none⟩ = some (.int .i64 x2) := (C5.cell (p := ⟨w.heap.size, 2, none⟩) z4).trans q2
  have p3 : w5.cell? ⟨w.heap.size, 3, none⟩ = some (.int .i64 x3) := (C5.cell (p := ⟨w.heap.size, 3, none⟩) z4).trans q3
  have p4 : w5.cell? ⟨w.heap.size, 4, none⟩ = some (.int .i64 x4) := (C5.cell (p := ⟨w.heap.size, 4, none⟩) z4).trans q4
  have p5 : w5.cell? ⟨w.heap.size, 5, none⟩ = some (.int .i64 x5) := (C5.cell (p := ⟨w.heap.size, 5, none⟩) z4).trans q5
  have p6 : w5.cell? ⟨w.heap.size, 6, none⟩ = some (.int .i64 x6) := (C5.cell (p := ⟨w.heap.size, 6, none⟩) z4).trans q6
  have z5 : w.heap.size < w5.heap.size := Nat.lt_of_lt_of_le z4 C5.size
  have H5 : Hid _ := h5
  clear R5 q0 q1 q2 q3 q4 q5 q6 C5 h5
  go_wp2_with fail
  refine (toDrum_any x0 x1 x2 x3 x4 x5 x6 _).mono ?_
  rintro e w6 ⟨rfl, h6⟩
  have HR6 : Hid (RowI w6 (some ⟨b', 0, none⟩) (n * 3) V) := HR5.out.below h6
  go_wp2_with fail
  refine (H2.out _ _ _ HR6.out).mono ?_
  rintro e w7 ⟨rfl, h7⟩
  have C7 : Below _ (w4.alloc (.cells #[.int .i64 y0, .int .i64 y1, .int .i64 y2, .int .i64 y3, .int .i64 y4, .int .i64 y5, .int .i64 y6] 25)) w7 := Below.trans H5.out ((Below.trans h6 (h7.mono h6.size)).mono H5.out.size)
  obtain ⟨r0, r1, r2, r3, r4, r5, r6⟩ := keep7 C7
  have B7 : Below w.heap.size w w7 := B5.trans ((Below.trans h6 (h7.mono h6.size)).mono (by omega))
  have z7 : w4.heap.size < w7.heap.size := by have := C7.size; simp at this; omega
  have HR7 : Hid (RowI w7 (some ⟨b', 0, none⟩) (n * 3) V) := HR6.out.below h7
  have HS7 : Hid (RowI w7 s (n * 3) V) := HR.out.below B7
  clear h6 h7 C7 p0 p1 p2 p3 p4 p5 p6 H5
  go_wp2_with fail
  refine (eqDrum_any y0 y1 y2 y3 y4 y5 y6 _).mono ?_
  rintro e w8 ⟨rfl, h8⟩
  have C8 : Below w7.heap.size w7 w8 := Below.trans (by repeat (first | with_reducible exact Below.refl _ _ | with_reducible refine Below.setCell ?_ (by first | omega | (simp; done) | (simp; omega)) _ | with_reducible refine bDrewN ?_ _ | with_reducible refine Below.drew ?_ | with_reducible refine Below.alloc ?_ (by first | omega | (simp; done) | (simp; omega)) _)) (h8.mono (by first | omega | (simp; done) | (simp; omega)))
  have HR8 : Hid (RowI w8 (some ⟨b', 0, none⟩) (n * 3) V) := HR7.out.below C8
  have HS8 : Hid (RowI w8 s (n * 3) V) := HS7.out.below C8
  have B8 : Below w.heap.size w w8 := B7.trans (C8.mono B7.size)
  clear h8 C8 r0 r1 r2 r3 r4 r5 r6
  go_wp2_with fail
  refine (T.out _ _ _ HS8.out).mono ?_
  rintro e w9 ⟨b9, rfl, _, _, R9, h9⟩
  have HR9 : Hid (RowI w9 (some ⟨b9, 0, none⟩) (n * 3) V) := R9
  have HS9 : Hid (RowI w9 (some ⟨b', 0, none⟩) (n * 3) V) := HR8.out.below h9
  have B9 : Below w.heap.size w w9 := B8.trans (h9.mono B8.size)
  clear R9
  go_wp2_with fail
  refine (Q.out _ _ _ _ _ HS9.out HR9.out).mono ?_
  rintro e w10 ⟨rfl, h10⟩
  have B10 : Below w.heap.size w w10 := B9.trans (h10.mono B9.size)
  go_wp2
  go_ret
  exact ⟨rfl, B10⟩

theorem fnExactDrumRun_walk (w : World) (x0 : Int) (wx0 : (Lit.int .i64 x0).wf = true) (x1 : Int) (wx1 : (Lit.int .i64 x1).wf = true) (x2 : Int) (wx2 : (Lit.int .i64 x2).wf = true) (x3 : Int) (wx3 : (Lit.int .i64 x3).wf = true) (x4 : Int) (wx4 : (Lit.int .i64 x4).wf = true) (x5 : Int) (wx5 : (Lit.int .i64 x5).wf = true) (x6 : Int) (wx6 : (Lit.int .i64 x6).wf = true) (s : Option Addr) (n c : Nat) (V : Nat → Int) (hn : n ≤ 9223372036854775807) (R : RowI w s (n * 3) V) :
    Calls Try.prog 6 #[.agg #[.int .i64 x0, .int .i64 x1, .int .i64 x2, .int .i64 x3, .int .i64 x4, .int .i64 x5, .int .i64 x6], .slice s n c] w fun e w' => e = .returned (.bool true) ∧ Below w.heap.size w w' := by
  by_cases h : n ≤ 1048576
  · obtain ⟨v, hv⟩ := run_exists (x0, x1, x2, x3, x4, x5, x6) V n
    obtain ⟨y0, y1, y2, y3, y4, y5, y6, z, rfl⟩ := hv.form
    exact drumRun_near x0 x1 x2 x3 x4 x5 x6 y0 y1 y2 y3 y4 y5 y6 z w s n c V (1048576 - (n : Int)) (by omega) R (fun w => szActS_any s n c w (by omega)) (fun s c w r => toActS_any s n c V w (by omega) r)
      (fun s c w r => (specDrumRun_any x0 x1 x2 x3 x4 x5 x6 s n c V w r).mono fun e w' ⟨⟨v, k1, k2⟩, k3⟩ => ⟨by rw [k2, k1.one hv], k3⟩)
      (fun s c w r => (implDrumRun_any x0 x1 x2 x3 x4 x5 x6 s n c V w r).mono fun e w' ⟨⟨v, k1, k2⟩, k3⟩ => ⟨by rw [k2, k1.one hv], k3⟩)
      (fun s t c d w r r' => eqActS_any s t n c d V w (by omega) r r')
  · exact drumRun_far x0 x1 x2 x3 x4 x5 x6 w s n c (fun w => szActS_far s n c w (by omega) (by omega))

set_option maxRecDepth 100000 in
theorem fnExactDrumRun_lifted (os : Os) (started : os.Started) (H : Type) (enc : TypeId × Value → H) :
    ReturnsInHanded {} Try.checked os 6 .any (Rows.fnExactDrumRunSpec.pre6 enc Try.prog Try.f6 Rows.fnExactDrumRunRow.domain false) (Rows.fnExactDrumRunSpec.post enc Try.prog Try.f6 false true false false) := by
  refine returnsInHanded_of_change (C := Try.checked) own started (by kernel_rfl) Try.func6
    (ChangeSpec.witness6 (enc := enc) (C := Try.checked) false ⟨#[], #[.agg #[.int .i64 0, .int .i64 0, .int .i64 0, .int .i64 0, .int .i64 0, .int .i64 0, .int .i64 0], .slice none 0 0], []⟩ 8 (by kernel_rfl) (by kernel_rfl) (by kernel_rfl) (by kernel_rfl)) ?_
  intro W base args ds gs before hval0 hW hcnd _
  have hval : ∀ (j : Nat) t v, Try.f6.params[j]? = some t → args[j]? = some v → Value.okWide Try.prog W .any base t v := hval0
  have hW' := hW
  obtain ⟨p, q, hA0, hV, rfl, hfz, hnd⟩ := hW
  have hA : DataW.TrodAll enc Try.prog W 0 (fun _ => true) true Try.f6.params.toList args.toList ds p := hA0
  rw [Try.params6] at hA hval
  obtain ⟨v0, vs0, d0, ds0, p0, q0, hargs, rfl, rfl, h0, r0⟩ := trodAll_cons hA
  obtain ⟨v1, vs1, d1, ds1, p1, q1, rfl, rfl, rfl, h1, r1⟩ := trodAll_cons r0
  obtain ⟨rfl, rfl, rfl⟩ := trodAll_nil r1
  obtain rfl : args = #[v0, v1] := by cases args; simp_all
  obtain ⟨rfl, rfl⟩ := trodVars_none hV
  have k0 := h0
  have lt0 : ∀ x ∈ p0, x.block < W.heap.size := by obtain ⟨m, hm⟩ := k0; exact DataW.trod_lt m _ _ _ hm
  have k1 := h1
  have lt1 : ∀ x ∈ p1, x.block < W.heap.size := by obtain ⟨m, hm⟩ := k1; exact DataW.trod_lt m _ _ _ hm
  obtain ⟨vs0, rfl, c0⟩ := open_cells Try.underlying23 (ts := [2, 2, 2, 2, 2, 2, 2]) (by kernel_rfl) (by kernel_rfl) (hval 0 23 v0 rfl rfl)
  obtain ⟨x0_0, r0_0, rfl, o0_0, c0_0⟩ := cellsOk_cons c0
  obtain ⟨a0_0, rfl, w0_0⟩ := cell_int Try.underlying2 o0_0
  obtain ⟨x0_1, r0_1, rfl, o0_1, c0_1⟩ := cellsOk_cons c0_0
  obtain ⟨a0_1, rfl, w0_1⟩ := cell_int Try.underlying2 o0_1
  obtain ⟨x0_2, r0_2, rfl, o0_2, c0_2⟩ := cellsOk_cons c0_1
  obtain ⟨a0_2, rfl, w0_2⟩ := cell_int Try.underlying2 o0_2
  obtain ⟨x0_3, r0_3, rfl, o0_3, c0_3⟩ := cellsOk_cons c0_2
  obtain ⟨a0_3, rfl, w0_3⟩ := cell_int Try.underlying2 o0_3
  obtain ⟨x0_4, r0_4, rfl, o0_4, c0_4⟩ := cellsOk_cons c0_3
  obtain ⟨a0_4, rfl, w0_4⟩ := cell_int Try.underlying2 o0_4
  obtain ⟨x0_5, r0_5, rfl, o0_5, c0_5⟩ := cellsOk_cons c0_4
  obtain ⟨a0_5, rfl, w0_5⟩ := cell_int Try.underlying2 o0_5
  obtain ⟨x0_6, r0_6, rfl, o0_6, c0_6⟩ := cellsOk_cons c0_5
  obtain ⟨a0_6, rfl, w0_6⟩ := cell_int Try.underlying2 o0_6
  obtain rfl := cellsOk_nil c0_6
  obtain ⟨s1, n1, c1, V1, rfl, m1, R1⟩ := open_triples Try.underlying33 Try.underlying60 (by kernel_rfl) rfl rfl rfl (by kernel_rfl) (by kernel_rfl) (by kernel_rfl) (by kernel_rfl) (by kernel_rfl) (by kernel_rfl) (hval 1 33 v1 rfl rfl) h1
  clear hA0 hval0
  refine (fnExactDrumRun_walk W a0_0 w0_0 a0_1 w0_1 a0_2 w0_2 a0_3 w0_3 a0_4 w0_4 a0_5 w0_5 a0_6 w0_6 s1 n1 c1 V1 m1 R1).mono fun e W' ⟨he, bel⟩ => ?_
  subst he
  exact ⟨_, rfl, _, _, _, [], _, [], hW', trodAll_mk1 (shut_bool Try.underlying4 _), (trodAll_cons_mk (Below.trod laidOut (by kernel_rfl) (of_decide_eq_true (by kernel_rfl)) k0 bel lt0) (trodAll_cons_mk (Below.trod laidOut (by kernel_rfl) (of_decide_eq_true (by kernel_rfl)) k1 bel lt1) trodAll_mk0)), rfl, bel.frame _, fun h => by cases h⟩

theorem fnExactDrumRun_holds : Rows.FnExactDrumRunSaid :=
  OpenClaim.holds_of_wide 6 Try.f6 rfl rfl rfl rfl rfl rfl rfl ⟨rfl, rfl, rfl, rfl, rfl⟩ rfl rfl rfl rfl rfl (by kernel_rfl) Try.func6 (by kernel_rfl)
    (of_decide_eq_true (by kernel_rfl)) (by unfold Func.isWrapper; first | (rw [if_pos (by decide +kernel)]; kernel_rfl) | (rw [if_neg (by decide +kernel)]; exact ⟨rfl, rfl⟩))
    (fun os started H enc _ => fnExactDrumRun_lifted os started H enc)
#print axioms fnExactDrumRun_holds
end Go.Proofs.Yteaohjcnlalapad
