/-
What is proved: by a calibration over two numbers at most 900 that lie 0.089 apart at least both are read as told, within a ten thousandth.
-/
import Derived.Test.YtpnhliijkepbbaaSzL
import Derived.Test.YtpnhliijkepbbaaCalK
import Derived.Test.YtpnhliijkepbbaaCor
namespace Go.Proofs.Ytpnhliijkepbbaa
set_option maxRecDepth 40000
open Go.ChangeShapes Go.WideShapes Go.ChangeAt Go.RowKit
set_option linter.unusedVariables false
set_option linter.unusedSimpArgs false

theorem fmulc (x y : Nat) : fRun .mul x y = fRun .mul y x := by
  show ((FloatKind.f64.format.read x).product (FloatKind.f64.format.read y)).map _ = ((FloatKind.f64.format.read y).product (FloatKind.f64.format.read x)).map _
  have e : ∀ a b : Ieee.Datum, a.product b = b.product a := fun a b => by
    cases a <;> cases b <;> simp [Ieee.Datum.product, Bool.xor_comm, Nat.mul_comm, Int.add_comm]
  rw [e]
theorem mul_bnd {x y X Y : Rat} (hx1 : -X ≤ x) (hx2 : x ≤ X) (hy1 : -Y ≤ y) (hy2 : y ≤ Y) : -(X * Y) ≤ x * y ∧ x * y ≤ X * Y := by
  have a1 : 0 ≤ (X - x) * (Y + y) := Rat.mul_nonneg (by grind) (by grind)
  have a2 : 0 ≤ (X + x) * (Y - y) := Rat.mul_nonneg (by grind) (by grind)
  have a3 : 0 ≤ (X - x) * (Y - y) := Rat.mul_nonneg (by grind) (by grind)
  have a4 : 0 ≤ (X + x) * (Y + y) := Rat.mul_nonneg (by grind) (by grind)
  constructor <;> grind
theorem quo_bnd {u d q K D Q : Rat} (hq : q * d = u) (hd : D ≤ d ∨ d ≤ -D) (hD : 0 < D) (h1 : -K ≤ u) (h2 : u ≤ K) (hQ : K ≤ Q * D) (hQ0 : 0 ≤ Q) : -Q ≤ q ∧ q ≤ Q := by
  rcases hd with hd | hd
  · constructor
    · rcases (Rat.le_total : -Q ≤ q ∨ q ≤ -Q) with h | h
      · exact h
      · have a1 : 0 ≤ (-Q - q) * d := Rat.mul_nonneg (by grind) (by grind)
        have a2 : 0 ≤ Q * (d - D) := Rat.mul_nonneg hQ0 (by grind)
        have a3 : (-Q - q) * d ≤ 0 := by grind
        have a4 : (-Q - q) * d = 0 := by grind
        have a5 : d ≠ 0 := by grind
        have a6 : -Q - q = 0 := by grind
        grind
    · rcases (Rat.le_total : q ≤ Q ∨ Q ≤ q) with h | h
      · exact h
      · have a1 : 0 ≤ (q - Q) * d := Rat.mul_nonneg (by grind) (by grind)
        have a2 : 0 ≤ Q * (d - D) := Rat.mul_nonneg hQ0 (by grind)
        have a4 : (q - Q) * d = 0 := by grind
        have a5 : d ≠ 0 := by grind
        have a6 : q - Q = 0 := by grind
        grind
  · constructor
    · rcases (Rat.le_total : -Q ≤ q ∨ q ≤ -Q) with h | h
      · exact h
      · have a1 : 0 ≤ (-Q - q) * (-d) := Rat.mul_nonneg (by grind) (by grind)
        have a2 : 0 ≤ Q * (-d - D) := Rat.mul_nonneg hQ0 (by grind)
        have a4 : (-Q - q) * (-d) = 0 := by grind
        have a5 : d ≠ 0 := by grind
        have a6 : -Q - q = 0 := by grind
        grind
    · rcases (Rat.le_total : q ≤ Q ∨ Q ≤ q) with h | h
      · exact h
      · have a1 : 0 ≤ (q - Q) * (-d) := Rat.mul_nonneg (by grind) (by grind)
        have a2 : 0 ≤ Q * (-d - D) := Rat.mul_nonneg hQ0 (by grind)
        have a4 : (q - Q) * (-d) = 0 := by grind
        have a5 : d ≠ 0 := by grind
        have a6 : q - Q = 0 := by grind
        grind
def In9 (x : Nat) : Prop := Fin x ∧ -900 ≤ rv x ∧ rv x ≤ 900
def At (x l : Nat) : Prop := Fin x ∧ rv l - 1 / 10000 ≤ rv x ∧ rv x ≤ rv l + 1 / 10000
theorem cal_num {a b l h : Nat} (ha : In9 a) (hb : In9 b) (hl : In9 l) (hh : In9 h) (hd : 89 / 1000 ≤ rv b - rv a ∨ rv b - rv a ≤ -(89 / 1000)) : ∃ g o y0 y1, gainO a b l h = some g ∧ offO a b l h = some o ∧ opO .add (opO .mul (some a) (some g)) (some o) = some y0 ∧ opO .add (opO .mul (some b) (some g)) (some o) = some y1 ∧ At y0 l ∧ At y1 h := by
  obtain ⟨fa, a1, a2⟩ := ha
  obtain ⟨fb, b1, b2⟩ := hb
  obtain ⟨fl, l1, l2⟩ := hl
  obtain ⟨fh, h1, h2⟩ := hh
  obtain ⟨u, ru, fu, u1, u2⟩ := rsub fh fl 1800 (by decide) (by grind) (by grind)
  obtain ⟨d, rd, fd, d1, d2⟩ := rsub fb fa 1800 (by decide) (by grind) (by grind)
  have hd' : 88 / 1000 ≤ rv d ∨ rv d ≤ -(88 / 1000) := by
    rcases hd with hd | hd
    · left; grind
    · right; grind
  have d0 : rv d ≠ 0 := by rcases hd' with q | q <;> grind
  obtain ⟨q, hq⟩ : ∃ q, rv u / rv d = q := ⟨_, rfl⟩
  have hqd : q * rv d = rv u := by rw [← hq]; grind
  obtain ⟨q1, q2⟩ := quo_bnd (K := 1801) (D := 88 / 1000) (Q := 21000) hqd hd' (by grind) (by grind) (by grind) (by grind) (by grind)
  obtain ⟨g, rg', fg, g1, g2⟩ := rquo fu fd d0 21000 (by decide) (by rw [hq]; exact q1) (by rw [hq]; exact q2)
  rw [hq] at g1 g2
  obtain ⟨m1, m2⟩ := mul_bnd (x := rv g) (y := rv a) (X := 21001) (Y := 900) (by grind) (by grind) a1 a2
  obtain ⟨p, rp, fp, p1, p2⟩ := rmul fg fa 20000000 (by decide) (by grind) (by grind)
  obtain ⟨n1, n2⟩ := mul_bnd (x := rv b) (y := rv g) (X := 900) (Y := 21001) b1 b2 (by grind) (by grind)
  obtain ⟨p', rp', fp', p1', p2'⟩ := rmul fb fg 20000000 (by decide) (by grind) (by grind)
  obtain ⟨o, ro, fo, o1, o2⟩ := rsub fl fp 30000000 (by decide) (by grind) (by grind)
  obtain ⟨y0, ry0, fy0, z1, z2⟩ := radd fp fo 60000000 (by decide) (by grind) (by grind)
  obtain ⟨y1, ry1, fy1, z3, z4⟩ := radd fp' fo 60000000 (by decide) (by grind) (by grind)
  have eg : gainO a b l h = some g := by
    unfold gainO
    show opO .quo (fRun .sub h l) (fRun .sub b a) = some g
    rw [ru, rd]
    exact rg'
  have eo : offO a b l h = some o := by
    unfold offO
    rw [eg]
    show opO .sub (some l) (fRun .mul g a) = some o
    rw [rp]
    exact ro
  refine ⟨g, o, y0, y1, eg, eo, ?_, ?_, ⟨fy0, ?_, ?_⟩, ⟨fy1, ?_, ?_⟩⟩
  · show opO .add (fRun .mul a g) (some o) = some y0
    rw [fmulc, rp]
    exact ry0
  · show opO .add (fRun .mul b g) (some o) = some y1
    rw [rp']
    exact ry1
  · grind
  · grind
  all_goals
    -- (b - a) g lies near h - l
    obtain ⟨k1, k2⟩ := mul_bnd (x := rv b - rv a - rv d) (y := rv g) (X := 1801 / 1000000000000000) (Y := 21001) (by grind) (by grind) (by grind) (by grind)
    obtain ⟨k3, k4⟩ := mul_bnd (x := rv d) (y := rv g - q) (X := 1801) (Y := 21001 / 1000000000000000) (by grind) (by grind) (by grind) (by grind)
    have k5 : rv b * rv g - rv g * rv a = (rv b - rv a - rv d) * rv g + rv d * (rv g - q) + rv u := by grind
    clear hd hd' m1 m2 n1 n2
    grind
end Go.Proofs.Ytpnhliijkepbbaa
