/-
What is proved: what a life is: the sum over the swings of what each uses of a curve.
-/
import Derived.Test.YthengechoaodcaaAlongA
import Derived.Test.YthengechoaodcaaAlongF
import Derived.Test.YthengechoaodcaaSumA
namespace Go.Proofs.Ythengechoaodcaa
set_option maxRecDepth 40000
open Go.RowKit
set_option linter.unusedVariables false

theorem seg_in {V : Nat → Int} {n : Nat} (h : okTo V n = true) {j : Nat} (hj : j + 1 < n) {x : Int} (h1 : V (j * 2) ≤ x) (h2 : x ≤ V ((j + 1) * 2)) : -1000000 ≤ segV V x j ∧ segV V x j ≤ 1000000 := by
  obtain ⟨_, ⟨a3, a4⟩⟩ := ok_in h (i := j) (by omega)
  obtain ⟨_, ⟨b3, b4⟩⟩ := ok_in h hj
  have r := ok_rise h hj
  unfold segV
  generalize V ((j + 1) * 2 + 1) = p at *
  generalize V (j * 2 + 1) = q at *
  generalize V ((j + 1) * 2) = u at *
  generalize V (j * 2) = v at *
  have d1 : 0 < u - v := by omega
  have t0 : 0 ≤ x - v := by omega
  have t1 : x - v ≤ u - v := by omega
  generalize u - v = d at *
  generalize x - v = t at *
  rcases Int.lt_or_le (p - q) 0 with s | s
  · have e1 : (p - q) * t ≤ 0 := Int.mul_nonpos_of_nonpos_of_nonneg (by omega) t0
    have e2 : (p - q) * d ≤ (p - q) * t := Int.mul_le_mul_of_nonpos_left (by omega) t1
    have f1 : (p - q) * t / d ≤ 0 := by
      have := Int.ediv_le_ediv (c := d) d1 e1
      simpa using this
    have f2 : p - q ≤ (p - q) * t / d := by
      have := Int.ediv_le_ediv (c := d) d1 e2
      rwa [Int.mul_ediv_cancel _ (by omega)] at this
    omega
  · have e1 : 0 ≤ (p - q) * t := Int.mul_nonneg s t0
    have e2 : (p - q) * t ≤ (p - q) * d := Int.mul_le_mul_of_nonneg_left t1 s
    have f1 : 0 ≤ (p - q) * t / d := Int.ediv_nonneg e1 (by omega)
    have f2 : (p - q) * t / d ≤ p - q := by
      have := Int.ediv_le_ediv (c := d) d1 e2
      rwa [Int.mul_ediv_cancel _ (by omega)] at this
    omega
theorem AV.small {n : Nat} {V : Nat → Int} {x y : Int} {ok : Bool} (h : AV n V x y ok) : -1000000 ≤ y ∧ y ≤ 1000000 := by
  rcases h with ⟨_, rfl, _⟩ | ⟨h1, h2⟩
  · omega
  · obtain ⟨c1, c2, c3⟩ := curve_ok h1
    rcases h2 with ⟨_, rfl, _⟩ | ⟨j, j1, j2, j3, rfl, _⟩
    · omega
    · exact seg_in c3 j1 j2 j3
theorem mk_part {h v : Int} (h1 : 1 ≤ h) (h2 : h ≤ 2) (v1 : 1 ≤ v) (v2 : v ≤ 1000000) : mkOk h (2 * v) = true := by
  unfold mkOk
  rw [decide_eq_true_iff]
  have a := Nat.div_le_self h.natAbs (Nat.gcd h.natAbs (2 * v).natAbs)
  have b := Nat.div_le_self (2 * v).natAbs (Nat.gcd h.natAbs (2 * v).natAbs)
  refine ⟨by omega, by omega, by omega⟩
theorem mk_bd (n d : Int) : -1000000000 ≤ mkNum n d ∧ mkNum n d ≤ 1000000000 ∧ 0 ≤ mkDen n d ∧ mkDen n d ≤ 1000000000 := by
  cases q : mkOk n d
  · have e1 : mkNum n d = 0 := by unfold mkNum; rw [if_neg (by rw [q]; decide)]
    have e2 : mkDen n d = 0 := by unfold mkDen; rw [if_neg (by rw [q]; decide)]
    omega
  · have q' := q
    unfold mkOk at q'
    rw [decide_eq_true_iff] at q'
    obtain ⟨_, b, c⟩ := q'
    unfold mkNum mkDen
    rw [if_pos q, if_pos q]
    generalize n.natAbs / Nat.gcd n.natAbs d.natAbs = A at *
    generalize d.natAbs / Nat.gcd n.natAbs d.natAbs = B at *
    refine ⟨?_, ?_, ?_, ?_⟩
    · split <;> omega
    · split <;> omega
    · omega
    · omega
theorem op_bd (a b c d n m : Int) : -1000000000 ≤ opNum a b c d n m ∧ opNum a b c d n m ≤ 1000000000 ∧ 0 ≤ opDen a b c d n m ∧ opDen a b c d n m ≤ 1000000000 := by
  unfold opNum opDen
  have := mk_bd n m
  by_cases q : rightB a b = true ∧ rightB c d = true
  · rw [if_pos q, if_pos q]; exact this
  · rw [if_neg q, if_neg q]; omega
/-- What one swing of a range and so many halves uses of a curve, if that is told. -/
def PartV (n2 : Nat) (V2 : Nat → Int) (r h x y : Int) (ok : Bool) : Prop :=
  (∃ v, AV n2 V2 r v true ∧ 1 ≤ v ∧ 1 ≤ h ∧ h ≤ 2 ∧ x = mkNum h (2 * v) ∧ y = mkDen h (2 * v) ∧ ok = true) ∨ ((¬ ∃ v, AV n2 V2 r v true ∧ 1 ≤ v ∧ 1 ≤ h ∧ h ≤ 2) ∧ x = 0 ∧ y = 0 ∧ ok = false)
theorem PartV.one {n2 : Nat} {V2 : Nat → Int} {r h x y x' y' : Int} {ok ok' : Bool} (p : PartV n2 V2 r h x y ok) (q : PartV n2 V2 r h x' y' ok') : x = x' ∧ y = y' ∧ ok = ok' := by
  rcases p with ⟨v, p1, p2, p3, p4, rfl, rfl, rfl⟩ | ⟨p1, rfl, rfl, rfl⟩ <;> rcases q with ⟨u, q1, q2, q3, q4, rfl, rfl, rfl⟩ | ⟨q1, rfl, rfl, rfl⟩
  · obtain ⟨rfl, _⟩ := p1.one q1
    exact ⟨rfl, rfl, rfl⟩
  · exact absurd ⟨v, p1, p2, p3, p4⟩ q1
  · exact absurd ⟨u, q1, q2, q3, q4⟩ p1
  · exact ⟨rfl, rfl, rfl⟩
/-- The sum of what the first k swings use. -/
def LifeTo (n2 : Nat) (V2 V : Nat → Int) : Nat → Int → Int → Prop
  | 0, a, b => a = 0 ∧ b = 1
  | k + 1, a, b => ∃ a' b' x y, LifeTo n2 V2 V k a' b' ∧ PartV n2 V2 (V (k * 2)) (V (k * 2 + 1)) x y true ∧ opOk a' b' x y (a' * y + x * b') (b' * y) = true ∧ a = opNum a' b' x y (a' * y + x * b') (b' * y) ∧ b = opDen a' b' x y (a' * y + x * b') (b' * y)
theorem LifeTo.one {n2 : Nat} {V2 V : Nat → Int} : ∀ {k : Nat} {a b a' b' : Int}, LifeTo n2 V2 V k a b → LifeTo n2 V2 V k a' b' → a = a' ∧ b = b'
  | 0, _, _, _, _, ⟨rfl, rfl⟩, ⟨rfl, rfl⟩ => ⟨rfl, rfl⟩
  | k + 1, _, _, _, _, ⟨p, q, x, y, h1, h2, h3, rfl, rfl⟩, ⟨p', q', x', y', g1, g2, g3, rfl, rfl⟩ => by
    obtain ⟨rfl, rfl⟩ := h1.one g1
    obtain ⟨rfl, rfl, _⟩ := h2.one g2
    exact ⟨rfl, rfl⟩
theorem LifeTo.down {n2 : Nat} {V2 V : Nat → Int} {j : Nat} : ∀ {k : Nat} {a b : Int}, LifeTo n2 V2 V k a b → j ≤ k → ∃ a' b', LifeTo n2 V2 V j a' b'
  | 0, a, b, h, hj => ⟨a, b, by obtain rfl : j = 0 := by omega
                                exact h⟩
  | k + 1, a, b, h, hj => by
    by_cases e : j = k + 1
    · subst e; exact ⟨a, b, h⟩
    · obtain ⟨p, q, x, y, h1, _⟩ := h
      exact h1.down (by omega)
theorem LifeTo.bd {n2 : Nat} {V2 V : Nat → Int} : ∀ {k : Nat} {a b : Int}, LifeTo n2 V2 V k a b → -1000000000 ≤ a ∧ a ≤ 1000000000 ∧ 0 ≤ b ∧ b ≤ 1000000000
  | 0, _, _, ⟨rfl, rfl⟩ => by omega
  | k + 1, _, _, ⟨p, q, x, y, h1, h2, h3, rfl, rfl⟩ => op_bd _ _ _ _ _ _
def LifeV (n n2 : Nat) (V V2 : Nat → Int) (a b : Int) (ok : Bool) : Prop := (n ≤ 400 ∧ LifeTo n2 V2 V n a b ∧ ok = true) ∨ ((¬ (n ≤ 400 ∧ ∃ a b, LifeTo n2 V2 V n a b)) ∧ a = 0 ∧ b = 0 ∧ ok = false)
theorem LifeV.one {n n2 : Nat} {V V2 : Nat → Int} {a b a' b' : Int} {ok ok' : Bool} (p : LifeV n n2 V V2 a b ok) (q : LifeV n n2 V V2 a' b' ok') : a = a' ∧ b = b' ∧ ok = ok' := by
  rcases p with ⟨p1, p2, rfl⟩ | ⟨p1, rfl, rfl, rfl⟩ <;> rcases q with ⟨q1, q2, rfl⟩ | ⟨q1, rfl, rfl, rfl⟩
  · obtain ⟨rfl, rfl⟩ := p2.one q2; exact ⟨rfl, rfl, rfl⟩
  · exact absurd ⟨p1, _, _, p2⟩ q1
  · exact absurd ⟨q1, _, _, q2⟩ p1
  · exact ⟨rfl, rfl, rfl⟩
theorem life_some (n n2 : Nat) (V V2 : Nat → Int) : ∃ a b ok, LifeV n n2 V V2 a b ok := by
  by_cases h : n ≤ 400 ∧ ∃ a b, LifeTo n2 V2 V n a b
  · obtain ⟨h1, a, b, h2⟩ := h
    exact ⟨a, b, true, .inl ⟨h1, h2, rfl⟩⟩
  · exact ⟨0, 0, false, .inr ⟨h, rfl, rfl, rfl⟩⟩
theorem life_part {n n2 : Nat} {V V2 : Nat → Int} {k : Nat} (hk : k < n) {x y : Int} (h : PartV n2 V2 (V (k * 2)) (V (k * 2 + 1)) x y false) : LifeV n n2 V V2 0 0 false := by
  refine .inr ⟨fun ⟨_, a, b, g⟩ => ?_, rfl, rfl, rfl⟩
  obtain ⟨a', b', p, q, u, v, h1, h2, _⟩ := g.down (j := k + 1) (by omega)
  have := (h.one h2).2.2
  cases this
theorem life_sum {n n2 : Nat} {V V2 : Nat → Int} {k : Nat} (hk : k < n) {a b x y : Int} (h0 : LifeTo n2 V2 V k a b) (h : PartV n2 V2 (V (k * 2)) (V (k * 2 + 1)) x y true) (hf : opOk a b x y (a * y + x * b) (b * y) = false) : LifeV n n2 V V2 0 0 false := by
  refine .inr ⟨fun ⟨_, p, q, g⟩ => ?_, rfl, rfl, rfl⟩
  obtain ⟨a', b', p, q, u, v, h1, h2, h3, _⟩ := g.down (j := k + 1) (by omega)
  obtain ⟨rfl, rfl⟩ := h0.one h1
  obtain ⟨rfl, rfl, _⟩ := h.one h2
  rw [hf] at h3
  cases h3

/-- The two boxes of a walk: the answer's, still empty, and the sum's. -/
def Box2 (w wr : World) (a b : Int) : Prop := Below w.heap.size w wr ∧ w.heap.size + 1 < wr.heap.size ∧ (∀ o, wr.frozen? ⟨w.heap.size, o, none⟩ = false) ∧ (∀ o, wr.frozen? ⟨w.heap.size + 1, o, none⟩ = false) ∧
  wr.cell? ⟨w.heap.size, 0, none⟩ = some (.int .i64 0) ∧ wr.cell? ⟨w.heap.size, 1, none⟩ = some (.int .i64 0) ∧ wr.cell? ⟨w.heap.size + 1, 0, none⟩ = some (.int .i64 a) ∧ wr.cell? ⟨w.heap.size + 1, 1, none⟩ = some (.int .i64 b)
theorem Box2.keep {w wr w' : World} {a b : Int} (h : Box2 w wr a b) (hb : Below wr.heap.size wr w') : Box2 w w' a b := by
  obtain ⟨h1, h2, h3, h4, h5, h6, h7, h8⟩ := h
  have z : w.heap.size < wr.heap.size := by omega
  exact ⟨h1.trans (hb.mono h1.size), Nat.lt_of_lt_of_le h2 hb.size, fun o => (hb.frozen (p := ⟨w.heap.size, o, none⟩) z).trans (h3 o), fun o => (hb.frozen (p := ⟨w.heap.size + 1, o, none⟩) h2).trans (h4 o),
    (hb.cell (p := ⟨w.heap.size, 0, none⟩) z).trans h5, (hb.cell (p := ⟨w.heap.size, 1, none⟩) z).trans h6, (hb.cell (p := ⟨w.heap.size + 1, 0, none⟩) h2).trans h7, (hb.cell (p := ⟨w.heap.size + 1, 1, none⟩) h2).trans h8⟩
theorem Box2.set {w wr : World} {a b : Int} (h : Box2 w wr a b) (x y : Int) : Box2 w ((wr.setCell ⟨w.heap.size + 1, 0, none⟩ (.int .i64 x)).setCell ⟨w.heap.size + 1, 1, none⟩ (.int .i64 y)) x y := by
  obtain ⟨h1, h2, h3, h4, h5, h6, h7, h8⟩ := h
  exact ⟨(by repeat (first | with_reducible exact Below.refl _ _ | with_reducible exact h1 | with_reducible refine Below.setCell ?_ (by first | omega | (simp; done) | (simp; omega)) _ | with_reducible refine bDrewN ?_ _ | with_reducible refine Below.drew ?_ | with_reducible refine Below.alloc ?_ (by first | omega | (simp; done) | (simp; omega)) _)), by simpa using h2, fun o => by simp [go_sem, h3], fun o => by simp [go_sem, h4], by simp [go_sem, h5], by simp [go_sem, h6], by simp [go_sem, h7], by simp [go_sem, h8]⟩
theorem box2_start (w : World) (t : TypeId) : Box2 w ((w.alloc (.cells #[.int .i64 0, .int .i64 0] t)).alloc (.cells #[.int .i64 0, .int .i64 1] t)) 0 1 :=
  ⟨(below0 w _).alloc (by simp) _, by simp, fun o => by simp [go_sem], fun o => by simp [go_sem], by simp [go_sem], by simp [go_sem], by simp [go_sem], by simp [go_sem]⟩
end Go.Proofs.Ythengechoaodcaa
