/-
What is proved: a quotient that goes down, as both packages say it; a curve that is followed through its interface.
-/
import Derived.Test.YthbnfckpaehniaaCurveI
namespace Go.Proofs.Ythbnfckpaehniaa
set_option maxRecDepth 40000
open Go.RowKit
set_option linter.unusedVariables false

theorem down_eq {a b : Int} (hb : 1 ≤ b) : (a.tmod b < 0 → a.tdiv b - 1 = a / b) ∧ (¬ a.tmod b < 0 → a.tdiv b = a / b) := by
  have h1 := Int.mul_tdiv_add_tmod a b
  have h2 := Int.mul_ediv_add_emod a b
  have h3 := Int.emod_nonneg a (by omega : b ≠ 0)
  have h4 := Int.emod_lt_of_pos a (by omega : 0 < b)
  rcases Int.lt_or_le a 0 with s | s
  · have e1 : a.tdiv b = -((-a) / b) := by
      obtain ⟨c, rfl⟩ : ∃ c, a = -c := ⟨-a, by omega⟩
      rw [Int.neg_tdiv, Int.tdiv_eq_ediv_of_nonneg (by omega)]; simp
    have g1 := Int.mul_ediv_add_emod (-a) b
    have g3 := Int.emod_nonneg (-a) (by omega : b ≠ 0)
    have g4 := Int.emod_lt_of_pos (-a) (by omega : 0 < b)
    have e2 : a.tmod b = -((-a) % b) := by
      have : b * (-((-a) / b)) = -(b * ((-a) / b)) := Int.mul_neg ..
      rw [e1, this] at h1
      omega
    refine ⟨fun h => ?_, fun h => ?_⟩
    · rw [e1]
      have : (-a) % b > 0 := by omega
      have k : b * (-((-a) / b) - 1) + (b - (-a) % b) = a := by rw [Int.mul_sub, Int.mul_neg]; omega
      exact ((Int.ediv_emod_unique (r := b - (-a) % b) (q := -((-a) / b) - 1) (by omega : 0 < b)).2 ⟨by omega, by omega, by omega⟩).1.symm
    · rw [e1]
      have : (-a) % b = 0 := by omega
      have k : b * (-((-a) / b)) + 0 = a := by rw [Int.mul_neg]; omega
      exact ((Int.ediv_emod_unique (r := 0) (q := -((-a) / b)) (by omega : 0 < b)).2 ⟨by omega, by omega, by omega⟩).1.symm
  · rw [Int.tdiv_eq_ediv_of_nonneg s, Int.tmod_eq_emod_of_nonneg s]
    exact ⟨fun h => by omega, fun _ => rfl⟩

theorem wrap_small64 {x : Int} (h0 : -9223372036854775808 ≤ x) (h1 : x ≤ 9223372036854775807) : wrap64 x = x := by
  unfold wrap64; omega
theorem tdiv_bounds {a b : Int} (ha : -1000000000000000 ≤ a) (ha' : a ≤ 1000000000000000) (hb : 1 ≤ b) : -1000000000000000 ≤ a.tdiv b ∧ a.tdiv b ≤ 1000000000000000 := by
  have h1 := Int.mul_tdiv_add_tmod a b
  rcases Int.lt_or_le a 0 with s | s
  · obtain ⟨c, rfl⟩ : ∃ c, a = -c := ⟨-a, by omega⟩
    rw [Int.neg_tdiv, Int.tdiv_eq_ediv_of_nonneg (by omega)]
    have := Int.ediv_le_self b (a := c) (by omega)
    have := Int.ediv_nonneg (a := c) (b := b) (by omega) (by omega)
    omega
  · rw [Int.tdiv_eq_ediv_of_nonneg s]
    have := Int.ediv_le_self b (a := a) s
    have := Int.ediv_nonneg (a := a) (b := b) s (by omega)
    omega
set_option maxHeartbeats 400000 in
theorem quotientDown_any (a b : Int) (w : World) (ha : -1000000000000000 ≤ a) (ha' : a ≤ 1000000000000000) (hb : 1 ≤ b) (hb' : b ≤ 1000000000000000) :
    Calls Try.prog 56 #[.int .i64 a, .int .i64 b] w fun e w' => e = .returned (.int .i64 (a / b)) ∧ w' = w := by
  obtain ⟨d1, d2⟩ := down_eq (a := a) hb
  obtain ⟨q1, q2⟩ := tdiv_bounds (a := a) (b := b) ha ha' hb
  have D1 : Hid _ := d1
  have D2 : Hid _ := d2
  clear d1 d2
  by_cases s : a.tmod b < 0
  · go_enter Try.func56, Try.ntmps56
    go_wp2
    go_ret
    exact ⟨ret_int (by rw [← D1.out s]), rfl⟩
  · go_enter Try.func56, Try.ntmps56
    go_wp2
    go_ret
    exact ⟨ret_int (D2.out (by omega)), rfl⟩
/-- The height between two knots next to one another. -/
def segV (V : Nat → Int) (x : Int) (j : Nat) : Int := V (j * 2 + 1) + ((V ((j + 1) * 2 + 1) - V (j * 2 + 1)) * (x - V (j * 2))) / (V ((j + 1) * 2) - V (j * 2))
theorem okTo_at {V : Nat → Int} : ∀ {n : Nat}, okTo V n = true → ∀ i, i < n → okAt V i = true
  | 0, _, i, h => by omega
  | n + 1, h, i, hi => by
    unfold okTo at h
    rw [Bool.and_eq_true] at h
    by_cases e : i = n
    · rw [e]; exact h.2
    · exact okTo_at h.1 i (by omega)
theorem ok_in {V : Nat → Int} {n : Nat} (h : okTo V n = true) {i : Nat} (hi : i < n) : inC (V (i * 2)) ∧ inC (V (i * 2 + 1)) := by
  have := okTo_at h i hi
  unfold okAt at this
  obtain ⟨a, b, _⟩ := decide_eq_true_iff.1 this
  exact ⟨a, b⟩
theorem ok_rise {V : Nat → Int} {n : Nat} (h : okTo V n = true) {i : Nat} (hi : i + 1 < n) : V (i * 2) < V ((i + 1) * 2) := by
  have := okTo_at h (i + 1) hi
  unfold okAt at this
  obtain ⟨_, _, c⟩ := decide_eq_true_iff.1 this
  have e : (i + 1) * 2 - 2 = i * 2 := by omega
  rw [e] at c
  rcases c with c | c
  · omega
  · exact c
theorem ok_mono {V : Nat → Int} {n : Nat} (h : okTo V n = true) {i : Nat} : ∀ {j : Nat}, i < j → j < n → V (i * 2) < V (j * 2)
  | 0, hj, _ => by omega
  | j + 1, hj, hn => by
    have r := ok_rise h (i := j) hn
    by_cases e : i = j
    · rw [e]; exact r
    · have := ok_mono h (i := i) (j := j) (by omega) (by omega)
      omega
theorem ok_le {V : Nat → Int} {n : Nat} (h : okTo V n = true) {i j : Nat} (hij : i ≤ j) (hn : j < n) : V (i * 2) ≤ V (j * 2) := by
  rcases Nat.lt_or_eq_of_le hij with q | q
  · exact Int.le_of_lt (ok_mono h q hn)
  · rw [q]; exact Int.le_refl _
/-- The numbers that a height is made of stay small. -/
theorem seg_small {V : Nat → Int} {n : Nat} (h : okTo V n = true) {j : Nat} (hj : j + 1 < n) {x : Int} (h1 : V (j * 2) ≤ x) (h2 : x ≤ V ((j + 1) * 2)) :
    -4000000000000 ≤ (V ((j + 1) * 2 + 1) - V (j * 2 + 1)) * (x - V (j * 2)) ∧ (V ((j + 1) * 2 + 1) - V (j * 2 + 1)) * (x - V (j * 2)) ≤ 4000000000000 ∧ 1 ≤ V ((j + 1) * 2) - V (j * 2) ∧ V ((j + 1) * 2) - V (j * 2) ≤ 2000000 := by
  obtain ⟨⟨a1, a2⟩, ⟨a3, a4⟩⟩ := ok_in h (i := j) (by omega)
  obtain ⟨⟨b1, b2⟩, ⟨b3, b4⟩⟩ := ok_in h hj
  have r := ok_rise h hj
  generalize V ((j + 1) * 2 + 1) = p at *
  generalize V (j * 2 + 1) = q at *
  generalize V ((j + 1) * 2) = u at *
  generalize V (j * 2) = v at *
  have l1 : -2000000 ≤ p - q := by omega
  have l2 : p - q ≤ 2000000 := by omega
  have l3 : 0 ≤ x - v := by omega
  have l4 : x - v ≤ 2000000 := by omega
  have m1 : (p - q) * (x - v) ≤ 2000000 * (x - v) := Int.mul_le_mul_of_nonneg_right l2 l3
  have m2 : -2000000 * (x - v) ≤ (p - q) * (x - v) := Int.mul_le_mul_of_nonneg_right l1 l3
  exact ⟨by omega, by omega, by omega, by omega⟩
/-- What Along tells. -/
def AV (n : Nat) (V : Nat → Int) (x y : Int) (ok : Bool) : Prop := (curveB n V = false ∧ y = 0 ∧ ok = false) ∨ (curveB n V = true ∧ (((x < V 0 ∨ V ((n - 1) * 2) < x) ∧ y = 0 ∧ ok = false) ∨ ∃ j, j + 1 < n ∧ V (j * 2) ≤ x ∧ x ≤ V ((j + 1) * 2) ∧ y = segV V x j ∧ ok = true))
theorem curve_ok {n : Nat} {V : Nat → Int} (h : curveB n V = true) : 2 ≤ n ∧ n ≤ 60 ∧ okTo V n = true := by
  unfold curveB at h
  rw [Bool.and_eq_true] at h
  have := decide_eq_true_iff.1 h.1
  exact ⟨this.1, this.2, h.2⟩
theorem seg_right {V : Nat → Int} {j : Nat} (h : V (j * 2) < V ((j + 1) * 2)) : segV V (V ((j + 1) * 2)) j = V ((j + 1) * 2 + 1) := by
  unfold segV
  rw [Int.mul_ediv_cancel _ (by omega)]
  omega
theorem seg_left {V : Nat → Int} {j : Nat} : segV V (V (j * 2)) j = V (j * 2 + 1) := by
  unfold segV
  rw [Int.sub_self, Int.mul_zero, Int.zero_ediv]; omega
theorem AV.one {n : Nat} {V : Nat → Int} {x y y' : Int} {ok ok' : Bool} (h : AV n V x y ok) (g : AV n V x y' ok') : y = y' ∧ ok = ok' := by
  rcases h with ⟨h1, rfl, rfl⟩ | ⟨h1, h2⟩ <;> rcases g with ⟨g1, rfl, rfl⟩ | ⟨g1, g2⟩
  · exact ⟨rfl, rfl⟩
  · rw [h1] at g1; cases g1
  · rw [h1] at g1; cases g1
  · obtain ⟨c1, c2, c3⟩ := curve_ok h1
    rcases h2 with ⟨h2, rfl, rfl⟩ | ⟨j, j1, j2, j3, rfl, rfl⟩ <;> rcases g2 with ⟨g2, rfl, rfl⟩ | ⟨l, l1, l2, l3, rfl, rfl⟩
    · exact ⟨rfl, rfl⟩
    · exfalso
      have a := ok_le c3 (Nat.zero_le l) (by omega)
      have b := ok_le c3 (i := l + 1) (j := n - 1) (by omega) (by omega)
      simp only [Nat.zero_mul] at a
      omega
    · exfalso
      have a := ok_le c3 (Nat.zero_le j) (by omega)
      have b := ok_le c3 (i := j + 1) (j := n - 1) (by omega) (by omega)
      simp only [Nat.zero_mul] at a
      omega
    · refine ⟨?_, rfl⟩
      rcases Nat.lt_trichotomy j l with q | q | q
      · have a := ok_le c3 (i := j + 1) (j := l) (by omega) (by omega)
        have e : x = V ((j + 1) * 2) := by omega
        have e' : x = V (l * 2) := by omega
        have jl : l = j + 1 := by
          rcases Nat.lt_or_ge (j + 1) l with z | z
          · have := ok_mono c3 z (by omega); omega
          · omega
        subst jl
        rw [e, seg_right (ok_rise c3 j1), seg_left]
      · rw [q]
      · have a := ok_le c3 (i := l + 1) (j := j) (by omega) (by omega)
        have e : x = V ((l + 1) * 2) := by omega
        have jl : j = l + 1 := by
          rcases Nat.lt_or_ge (l + 1) j with z | z
          · have := ok_mono c3 z (by omega); omega
          · omega
        subst jl
        rw [e, seg_right (ok_rise c3 l1), seg_left]

theorem upon_run {P : Program} {α : Type} {op : Oper} {act : Act} {K : Act → World → Prop} {Q : Exit → Act → World → Prop} {M : Sem α} {w w' : World} {a : α} {F : α → World → Result Next} (h : Sem.run P M w = .ok a w') (g : Oper.upon P op act K Q (F a w')) : Oper.upon P op act K Q ((Sem.run P M w).andThen F) := by
  rw [h]; exact g
set_option maxRecDepth 20000 in
set_option maxHeartbeats 1000000 in
theorem ends_any (s : Option Addr) (m c : Nat) (V : Nat → Int) (w : World) (hm : (m : Int) ≤ 59) (HR : Hid (RowI w s ((m + 1) * 2) V)) :
    Calls Try.prog 54 #[.slice s (m + 1) c] w fun e w' => e = .returned (.tuple #[.int .i64 (V 0), .int .i64 (V (m * 2))]) ∧ Below w.heap.size w w' := by
  obtain ⟨g, o, rfl, hg, c0⟩ := HR.out 0 (by omega)
  obtain ⟨g', o', e', hg', c1⟩ := HR.out (m * 2) (by omega)
  cases e'
  simp only [Nat.add_zero] at c0
  go_enter Try.func54, Try.ntmps54
  go_wp2_with fail
  go_quiet (fail)
  go_wp2
  exact bodyPost_ret (v := .tuple #[.int .i64 (V 0), .int .i64 (V (m * 2))]) (by simp [results, Try.results54, go_sem]) rfl ⟨rfl, (by repeat (first | with_reducible exact Below.refl _ _ | with_reducible refine Below.setCell ?_ (by first | omega | (simp; done) | (simp; omega)) _ | with_reducible refine bDrewN ?_ _ | with_reducible refine Below.drew ?_ | with_reducible refine Below.alloc ?_ (by first | omega | (simp; done) | (simp; omega)) _))⟩
theorem div_small {a b : Int} (h1 : -4000000000000 ≤ a) (h2 : a ≤ 4000000000000) (h3 : 1 ≤ b) : -4000000000000 ≤ a / b ∧ a / b ≤ 4000000000000 := by
  have e := Int.mul_ediv_add_emod a b
  have p := Int.emod_nonneg a (by omega : b ≠ 0)
  have q := Int.emod_lt_of_pos a (by omega : 0 < b)
  rcases Int.lt_or_le (a / b) 0 with s | s
  · refine ⟨?_, by omega⟩
    rcases Int.lt_or_le (a / b) (-4000000000000) with z | z
    · have h : b * (a / b) ≤ b * (-4000000000001) := Int.mul_le_mul_of_nonneg_left (by omega) (by omega)
      omega
    · exact z
  · refine ⟨by omega, ?_⟩
    have h : 1 * (a / b) ≤ b * (a / b) := Int.mul_le_mul_of_nonneg_right h3 s
    omega
set_option maxRecDepth 20000 in
set_option maxHeartbeats 1000000 in
theorem height_any (s : Option Addr) (m c : Nat) (V : Nat → Int) (x : Int) (w : World) (hm : (m : Int) ≤ 58) (HR : Hid (RowI w s ((m + 2) * 2) V)) (HO : Hid (okTo V (m + 2) = true)) (h0 : V 0 ≤ x) (h1 : x ≤ V ((m + 1) * 2)) :
    Calls Try.prog 55 #[.slice s (m + 2) c, .int .i64 x] w fun e w' => (∃ j, j + 1 < m + 2 ∧ V (j * 2) ≤ x ∧ x ≤ V ((j + 1) * 2) ∧ e = .returned (.int .i64 (segV V x j))) ∧ Below w.heap.size w w' := by
  go_enter Try.func55, Try.ntmps55
  go_wp2_with fail
  go_loopw [5] (fun i wr => ∃ j : Nat, j ≤ m ∧ i = .int .i64 ((j : Int) + 1) ∧ Hid (V (j * 2) ≤ x) ∧ wr = w) (fun i _ => (m + 1) - (intOf i).toNat)
  case atStart => exact ⟨0, by omega, rfl, (by show V (0 * 2) ≤ x; simpa using h0), rfl⟩
  case round =>
    obtain ⟨j, hj, rfl, hl, rfl⟩ := hrel
    obtain ⟨g, o, rfl, hg, c0⟩ := HR.out ((j + 1) * 2) (by omega)
    by_cases h2 : j < m ∧ V ((j + 1) * 2) < x
    · obtain ⟨h2, h3⟩ := h2
      have k1 : (j : Int) < (m : Int) := by omega
      have HN : Hid (j < m) := h2
      have HX : Hid (V ((j + 1) * 2) ≤ x) := by show V ((j + 1) * 2) ≤ x; omega
      go_wp2
      go_round
      case rel => exact ⟨j + 1, by have := HN.out; omega, by go_num, HX.out, trivial⟩
      case measure => have := HN.out; simp [intOf]; omega
    · have HX : Hid (x ≤ V ((j + 1) * 2)) := by
        show x ≤ V ((j + 1) * 2)
        by_cases q : j = m
        · rw [q]; exact h1
        · omega
      obtain ⟨g', o', e', hg', c1⟩ := HR.out ((j + 1) * 2 + 1) (by omega)
      cases e'
      obtain ⟨g', o', e', hg', d0⟩ := HR.out (j * 2) (by omega)
      cases e'
      obtain ⟨g', o', e', hg', d1⟩ := HR.out (j * 2 + 1) (by omega)
      cases e'
      obtain ⟨i, hi⟩ : ∃ i : Nat, (i : Int) = (j : Int) + 1 := ⟨j + 1, by omega⟩
      have ij : i = j + 1 := by omega
      have c0' : wr.cell? ⟨g, o + i * 2, none⟩ = some (.int .i64 (V ((j + 1) * 2))) := by rw [ij]; exact c0
      have c1' : wr.cell? ⟨g, o + i * 2 + 1, none⟩ = some (.int .i64 (V ((j + 1) * 2 + 1))) := by rw [ij]; exact c1
      have d1' : wr.cell? ⟨g, o + j * 2 + 1, none⟩ = some (.int .i64 (V (j * 2 + 1))) := d1
      have hi1 : (i : Int) - 1 = (j : Int) := by omega
      have wj : IntKind.i64.wrap (j : Int) = (j : Int) := by rw [IntKind.wrap_i64]; omega
      have i1 : i < m + 2 := by omega
      have i2 : (i : Int) < (m : Int) + 2 := by omega
      have i3 : j < m + 2 := by omega
      have i4 : (j : Int) < (m : Int) + 2 := by omega
      rw [← hi]
      clear c0 c1 d1 hg'
      have HI : Hid (i = j + 1) := ij
      have HI2 : Hid ((i : Int) = (j : Int) + 1) := hi
      have h2i : ¬ ((i : Int) < (m : Int) + 1 ∧ V ((j + 1) * 2) < x) := by omega
      clear ij hi h2
      obtain ⟨z1, z2, z3, z4⟩ := seg_small HO.out (show j + 1 < m + 2 by omega) hl.out HX.out
      have QD : Hid (∀ w, Calls Try.prog 56 #[.int .i64 ((V ((j + 1) * 2 + 1) - V (j * 2 + 1)) * (x - V (j * 2))), .int .i64 (V ((j + 1) * 2) - V (j * 2))] w fun e w' => e = .returned (.int .i64 ((V ((j + 1) * 2 + 1) - V (j * 2 + 1)) * (x - V (j * 2)) / (V ((j + 1) * 2) - V (j * 2)))) ∧ w' = w) := fun w => quotientDown_any _ _ w (by omega) (by omega) z3 (by omega)
      obtain ⟨⟨a1, a2⟩, ⟨a3, a4⟩⟩ := ok_in HO.out (show j < m + 2 by omega)
      obtain ⟨⟨b1, b2⟩, ⟨b3, b4⟩⟩ := ok_in HO.out (show j + 1 < m + 2 by omega)
      have hx1 : V (j * 2) ≤ x := hl.out
      have hx2 : x ≤ V ((j + 1) * 2) := HX.out
      have HJ : Hid (j ≤ m) := hj
      have hb := div_small z1 z2 z3
      go_upto_region 4 with fail
      all_goals
        go_cut [6, 7] (fun s t wx => ∃ p q : Nat, s = .pointer (some ⟨p, 0, none⟩) ∧ t = .pointer (some ⟨q, 0, none⟩) ∧ p < wx.heap.size ∧ q < wx.heap.size ∧ wx.cell? ⟨p, 0, none⟩ = some (.int .i64 (V (j * 2))) ∧ wx.cell? ⟨p, 1, none⟩ = some (.int .i64 (V (j * 2 + 1))) ∧ wx.cell? ⟨q, 0, none⟩ = some (.int .i64 (V ((j + 1) * 2))) ∧ wx.cell? ⟨q, 1, none⟩ = some (.int .i64 (V ((j + 1) * 2 + 1))) ∧ Below wr.heap.size wr wx)
        case first =>
          go_region_held3 (fun w' => w'.cell? ⟨g, o + j * 2, none⟩ = some (.int .i64 (V (j * 2))) ∧ w'.cell? ⟨g, o + j * 2 + 1, none⟩ = some (.int .i64 (V (j * 2 + 1))) ∧ w'.cell? ⟨g, o + i * 2, none⟩ = some (.int .i64 (V ((j + 1) * 2))) ∧ w'.cell? ⟨g, o + i * 2 + 1, none⟩ = some (.int .i64 (V ((j + 1) * 2 + 1)))) (first | (refine keepK d0 d1' c0' c1' hg hg ?_; exact (by repeat (first | with_reducible exact Below.refl _ _ | with_reducible refine Below.setCell ?_ (by first | omega | (simp; done) | (simp; omega)) _ | with_reducible refine bDrewN ?_ _ | with_reducible refine Below.drew ?_ | with_reducible refine Below.alloc ?_ (by first | omega | (simp; done) | (simp; omega)) _)))) (fail)
          all_goals
            go_wp2_with fail
            go_meet
            case rel =>
              refine ⟨_, _, rfl, rfl, ?_, ?_, ?_, ?_, ?_, ?_, (by repeat (first | with_reducible exact Below.refl _ _ | with_reducible refine Below.setCell ?_ (by first | omega | (simp; done) | (simp; omega)) _ | with_reducible refine bDrewN ?_ _ | with_reducible refine Below.drew ?_ | with_reducible refine Below.alloc ?_ (by first | omega | (simp; done) | (simp; omega)) _))⟩
              all_goals first | omega | (simp [go_sem, *]; done) | (simp; omega)
        case rest =>
          obtain ⟨p, q, rfl, rfl, hp, hq, e0, e1, f0, f1, hB⟩ := hcut
          go_wp2_with fail
          go_quiet (first | (go_at_call 56; exact Calls.quiet_of_same (QD.out _)))
          go_wp2
          go_ret
          refine ⟨⟨j, by have := HJ.out; omega, hx1, hx2, ?_⟩, (by repeat (first | with_reducible exact Below.refl _ _ | with_reducible exact hB | with_reducible refine Below.setCell ?_ (by first | omega | (simp; done) | (simp; omega)) _ | with_reducible refine bDrewN ?_ _ | with_reducible refine Below.drew ?_ | with_reducible refine Below.alloc ?_ (by first | omega | (simp; done) | (simp; omega)) _))⟩
          exact ret_int rfl
end Go.Proofs.Ythbnfckpaehniaa
