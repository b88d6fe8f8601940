/-
What is proved: a fire's atoms, what is left of it and its heat, in numbers.
-/
import Derived.Test.YtphmdnpmekdglaaDoorBurnJ
import Derived.Test.YtphmdnpmekdglaaDoorHeat
import Derived.Test.YtphmdnpmekdglaaDoorNeed
namespace Go.Proofs.YtphmdnpmekdglaaDoor
set_option maxRecDepth 40000
open Go.ChangeShapes Go.WideShapes Go.ChangeAt Go.RowKit
set_option linter.unusedVariables false
set_option linter.unusedSimpArgs false

theorem psum9_0 (g0 g1 g2 g3 g4 g5 g6 g7 g8 : Int) : psum (nth g0 g1 g2 g3 g4 g5 g6 g7 g8) 0 9 = g0 + g1 + g2 := by
  simp [psum, nth, tb, tbl]
theorem psum9_1 (g0 g1 g2 g3 g4 g5 g6 g7 g8 : Int) : psum (nth g0 g1 g2 g3 g4 g5 g6 g7 g8) 1 9 = 2 * g3 + 2 * g4 := by
  simp [psum, nth, tb, tbl]
theorem psum9_2 (g0 g1 g2 g3 g4 g5 g6 g7 g8 : Int) : psum (nth g0 g1 g2 g3 g4 g5 g6 g7 g8) 2 9 = g5 + g6 := by
  simp [psum, nth, tb, tbl]
theorem psum9_3 (g0 g1 g2 g3 g4 g5 g6 g7 g8 : Int) : psum (nth g0 g1 g2 g3 g4 g5 g6 g7 g8) 3 9 = 2 * g0 + g1 + g3 + 2 * g5 + g7 := by
  simp [psum, nth, tb, tbl]
theorem psum9_4 (g0 g1 g2 g3 g4 g5 g6 g7 g8 : Int) : psum (nth g0 g1 g2 g3 g4 g5 g6 g7 g8) 4 9 = g8 := by
  simp [psum, nth, tb, tbl]

theorem burn_no {c h s o n air : Int} (e : burnOk c h s o n air = false) : burnV c h s o n air = flue0 := by unfold burnV; rw [e]; rfl
theorem ok_parts {c h s o n air : Int} (e : burnOk c h s o n air = true) : fuelB c h s o n = true ∧ inR air := by
  unfold burnOk at e
  rw [Bool.and_eq_true, decide_eq_true_iff] at e
  exact e
/-- What a fire leaves: nine numbers with the fuel's and the air's atoms, and its heat. -/
theorem burn_form {c h s o n air : Int} (e : burnOk c h s o n air = true) : ∃ g0 g1 g2 g3 g4 g5 g6 g7 g8 : Int, burnV c h s o n air = .agg #[.int .i64 g0, .int .i64 g1, .int .i64 g2, .int .i64 g3, .int .i64 g4, .int .i64 g5, .int .i64 g6, .int .i64 g7, .int .i64 g8] ∧ elemV (nth g0 g1 g2 g3 g4 g5 g6 g7 g8) = .tuple #[.agg #[.int .i64 c, .int .i64 h, .int .i64 s, .int .i64 (o + 42 * air), .int .i64 (n + 158 * air)], .bool true] ∧ heatV (nth g0 g1 g2 g3 g4 g5 g6 g7 g8) = 242 * bH h o air + 297 * bS h s o air + 111 * bC c h s o air + 283 * bD c h s o air ∧ (decide (g1 = 0 ∧ g2 = 0 ∧ g4 = 0 ∧ g6 = 0) = decide (h / 2 + 2 * s + 2 * c ≤ o + 42 * air)) := by
  obtain ⟨hf, ha⟩ := ok_parts e
  have hb := burn_bounds hf ha
  have fb := fuel_bounds hf
  have ci := clean_iff hf ha
  obtain ⟨a0, a1⟩ := ha
  unfold burnV
  rw [if_pos e]
  unfold flueV
  refine ⟨_, _, _, _, _, _, _, _, _, rfl, ?_, ?_, ?_⟩
  · rw [elem_yes (fun i hi => ?_), psum9_0, psum9_1, psum9_2, psum9_3, psum9_4]
    · have e0 : bD c h s o air + (bC c h s o air - bD c h s o air) + (c - bC c h s o air) = c := by omega
      have e1 : 2 * bH h o air + 2 * (h / 2 - bH h o air) = h := by omega
      have e2 : bS h s o air + (s - bS h s o air) = s := by omega
      have e3 : 2 * bD c h s o air + (bC c h s o air - bD c h s o air) + bH h o air + 2 * bS h s o air + (o + 42 * air - bH h o air - 2 * bS h s o air - bC c h s o air - bD c h s o air) = o + 42 * air := by omega
      rw [e0, e1, e2, e3]
    · have hc : i = 0 ∨ i = 1 ∨ i = 2 ∨ i = 3 ∨ i = 4 ∨ i = 5 ∨ i = 6 ∨ i = 7 ∨ i = 8 := by omega
      unfold inF
      rcases hc with rfl | rfl | rfl | rfl | rfl | rfl | rfl | rfl | rfl <;> simp only [nth] <;> omega
  · unfold heatV
    rw [if_pos ((elemOk_iff _).2 fun i hi => ?_), hsum9]
    · omega
    · have hc : i = 0 ∨ i = 1 ∨ i = 2 ∨ i = 3 ∨ i = 4 ∨ i = 5 ∨ i = 6 ∨ i = 7 ∨ i = 8 := by omega
      unfold inF
      rcases hc with rfl | rfl | rfl | rfl | rfl | rfl | rfl | rfl | rfl <;> simp only [nth] <;> omega
  · first | exact decide_eq_decide.2 ci | exact decide_eq_decide.2 ci.symm
def heV (c h s o air : Int) : Int := 242 * bH h o air + 297 * bS h s o air + 111 * bC c h s o air + 283 * bD c h s o air
theorem heat_grows {c h s o n air : Int} (hf : fuelB c h s o n = true) (ha : 0 ≤ air) : 0 ≤ heV c h s o air ∧ heV c h s o air ≤ heV c h s o (air + 1) := by
  have fb := fuel_bounds hf
  have p1 := mn_le (h / 2) (o + 42 * air)
  have p2 := mn_le s ((o + 42 * air - bH h o air) / 2)
  have p3 := mn_le c (o + 42 * air - bH h o air - 2 * bS h s o air)
  have p4 := mn_le (bC c h s o air) (o + 42 * air - bH h o air - 2 * bS h s o air - bC c h s o air)
  have q1 := mn_le (h / 2) (o + 42 * (air + 1))
  have q2 := mn_le s ((o + 42 * (air + 1) - bH h o (air + 1)) / 2)
  have q3 := mn_le c (o + 42 * (air + 1) - bH h o (air + 1) - 2 * bS h s o (air + 1))
  have q4 := mn_le (bC c h s o (air + 1)) (o + 42 * (air + 1) - bH h o (air + 1) - 2 * bS h s o (air + 1) - bC c h s o (air + 1))
  rw [show mn (h / 2) (o + 42 * air) = bH h o air from rfl] at p1
  rw [show mn s ((o + 42 * air - bH h o air) / 2) = bS h s o air from rfl] at p2
  rw [show mn c (o + 42 * air - bH h o air - 2 * bS h s o air) = bC c h s o air from rfl] at p3
  rw [show mn (bC c h s o air) (o + 42 * air - bH h o air - 2 * bS h s o air - bC c h s o air) = bD c h s o air from rfl] at p4
  rw [show mn (h / 2) (o + 42 * (air + 1)) = bH h o (air + 1) from rfl] at q1
  rw [show mn s ((o + 42 * (air + 1) - bH h o (air + 1)) / 2) = bS h s o (air + 1) from rfl] at q2
  rw [show mn c (o + 42 * (air + 1) - bH h o (air + 1) - 2 * bS h s o (air + 1)) = bC c h s o (air + 1) from rfl] at q3
  rw [show mn (bC c h s o (air + 1)) (o + 42 * (air + 1) - bH h o (air + 1) - 2 * bS h s o (air + 1) - bC c h s o (air + 1)) = bD c h s o (air + 1) from rfl] at q4
  unfold heV
  generalize bD c h s o air = m4 at *
  generalize bC c h s o air = m3 at *
  generalize bS h s o air = m2 at *
  generalize bH h o air = m1 at *
  generalize bD c h s o (air + 1) = k4 at *
  generalize bC c h s o (air + 1) = k3 at *
  generalize bS h s o (air + 1) = k2 at *
  generalize bH h o (air + 1) = k1 at *
  obtain ⟨c0, -, h0, -, s0, -, o0, -, -, -, -⟩ := fb
  have s1 : 0 ≤ m1 ∧ m1 ≤ k1 ∧ (o + 42 * (air + 1) - k1 = o + 42 * air - m1 + 42 ∨ o + 42 * air - m1 = 0) ∧ 0 ≤ o + 42 * air - m1 ∧ 0 ≤ o + 42 * (air + 1) - k1 := by
    clear p2 p3 p4 q2 q3 q4
    omega
  obtain ⟨s10, s11, s12, s13, s14⟩ := s1
  clear p1 q1
  obtain ⟨r1, hr1⟩ : ∃ r1, o + 42 * air - m1 = r1 := ⟨_, rfl⟩
  obtain ⟨t1, ht1⟩ : ∃ t1, o + 42 * (air + 1) - k1 = t1 := ⟨_, rfl⟩
  have s2 : 0 ≤ m2 ∧ m2 ≤ k2 ∧ r1 - 2 * m2 ≤ t1 - 2 * k2 ∧ 0 ≤ r1 - 2 * m2 := by
    clear p3 p4 q3 q4
    omega
  obtain ⟨s20, s21, s22, s23⟩ := s2
  clear p2 q2
  obtain ⟨r2, hr2⟩ : ∃ r2, r1 - 2 * m2 = r2 := ⟨_, rfl⟩
  obtain ⟨t2, ht2⟩ : ∃ t2, t1 - 2 * k2 = t2 := ⟨_, rfl⟩
  have s3 : 0 ≤ m3 ∧ m3 ≤ k3 := by
    clear p4 q4
    omega
  have s4 : 0 ≤ m4 ∧ m4 ≤ k4 := by omega
  omega
def Tabs (w : World) : Prop := TabB w ∧ TabW w
theorem Tabs.below {w w' : World} (h : Tabs w) (hb : Below w.heap.size w w') : Tabs w' := ⟨h.1.below hb h.1.lt, h.2.below hb h.2.1⟩
theorem eq_fuel (x0 x1 x2 x3 x4 : Int) (w : World) : (binOp .eql 25 (.agg #[.int .i64 x0, .int .i64 x1, .int .i64 x2, .int .i64 x3, .int .i64 x4]) (.agg #[.int .i64 x0, .int .i64 x1, .int .i64 x2, .int .i64 x3, .int .i64 x4])).run Tryd.prog w = .ok (.bool true) w := by
  have u3 := Tryd.underlying2
  have a3 := Tryd.isAgg2
  have z3 := Tryd.sizeOf2
  have hS : Tryd.prog.underlying 25 = some (.struct (Tryd.prog.fieldsOf 25)) := by kernel_rfl
  have hp : Tryd.prog.stoodInHeld 25 = false := by kernel_rfl
  rw [run_eql_struct, show (10000 : Nat) = 9999 + 1 from rfl, run_equalIn_agg w 9999 25 _ _ hS hp]
  simp only [Program.fieldsOf, Tryd.underlying25]
  go_simp
theorem elements_any (g0 g1 g2 g3 g4 g5 g6 g7 g8 : Int) (w : World) (hT : TabW w) : Calls Tryd.prog 12 #[.agg #[.int .i64 g0, .int .i64 g1, .int .i64 g2, .int .i64 g3, .int .i64 g4, .int .i64 g5, .int .i64 g6, .int .i64 g7, .int .i64 g8]] w fun e w' => e = .returned (elemV (nth g0 g1 g2 g3 g4 g5 g6 g7 g8)) ∧ Below w.heap.size w w' :=
  elements_core g0 g1 g2 g3 g4 g5 g6 g7 g8 w hT (fun x w a => within_no x 0 1000000000000 w a) (fun x w a b => within_yes x 0 1000000000000 w a b)
end Go.Proofs.YtphmdnpmekdglaaDoor
