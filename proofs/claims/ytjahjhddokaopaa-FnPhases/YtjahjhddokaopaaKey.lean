/-
What is proved: float64s that are no NaNs stand to each other as their keys do; a sum and a product with something greater is no less.
-/
import Derived.Test.YtjahjhddokaopaaSvN
namespace Go.Proofs.Ytjahjhddokaopaa
set_option maxRecDepth 40000
open Go.ChangeShapes Go.WideShapes Go.ChangeAt Go.RowKit
set_option linter.unusedVariables false
set_option linter.unusedSimpArgs false

theorem wd_parts (s : Bool) {r : Nat} (h : r ≤ INF) : rg (FloatKind.f64.format.word s r) = r ∧ sg (FloatKind.f64.format.word s r) = s := by
  unfold Ieee.Format.word
  rw [fmt_sign]
  have : INF < 9223372036854775808 := by decide
  unfold rg sg
  cases s
  · simp; omega
  · simp; omega
theorem read_wd (s : Bool) {r : Nat} (h : r < INF) : FloatKind.f64.format.read (FloatKind.f64.format.word s r) = .number s (mg r) (-1074 + (kg r : Int)) := by
  obtain ⟨a, b⟩ := wd_parts s (Nat.le_of_lt h)
  rw [read_gen (by rw [a]; exact h), a, b]
theorem read_wdI (s : Bool) : FloatKind.f64.format.read (FloatKind.f64.format.word s INF) = .infinity s := by
  obtain ⟨a, b⟩ := wd_parts s (Nat.le_refl INF)
  rw [read_inf a, b]
theorem fmul_num {s t : Bool} {a b : Nat} (ha : a < INF) (hb : b < INF) : fRun .mul (FloatKind.f64.format.word s a) (FloatKind.f64.format.word t b) = some (FloatKind.f64.format.word (s ^^ t) (rn (mg a * mg b) (-1074 + (kg a : Int) + (-1074 + (kg b : Int))))) := by
  show Option.map FloatKind.f64.format.write _ = _
  rw [read_wd s ha, read_wd t hb]
  show some (FloatKind.f64.format.nearest _ _ _) = _
  rw [nearest_rn]
theorem leV_total (a : Nat) (p : Int) (b : Nat) (q : Int) : leV a p b q ∨ leV b q a p := by
  unfold leV
  rw [Int.min_comm q p]
  omega
theorem word_self {x : Nat} (lx : x < 18446744073709551616) : x = FloatKind.f64.format.word (sg x) (rg x) := by
  have h := word_of lx
  unfold Ieee.Format.word
  rw [fmt_sign]
  by_cases hs : sg x = true
  · rw [if_pos hs] at h ⊢
    exact h
  · rw [if_neg hs] at h ⊢
    rw [Nat.zero_add] at h
    exact h
def key (x : Nat) : Int := if sg x = true then -(rg x : Int) else (rg x : Int)
theorem vl_nil : vl 0 = 0 := (vl_sub (show 0 < BIN by decide)).1
theorem vl_lt_iff (a b : Nat) : vl a < vl b ↔ a < b := by
  constructor
  · intro h
    rcases Nat.lt_or_ge a b with z | z
    · exact z
    · have := vl_le z; omega
  · exact vl_mono
theorem vl_zero_iff (a : Nat) : vl a = 0 ↔ a = 0 := ⟨fun h => vl_inj (h.trans vl_nil.symm), fun h => by rw [h, vl_nil]⟩
theorem sv_lt_iff (x y : Nat) : sv x < sv y ↔ key x < key y := by
  unfold sv key
  have h1 := vl_lt_iff (rg x) (rg y)
  have h2 := vl_lt_iff (rg y) (rg x)
  have h3 := vl_zero_iff (rg x)
  have h4 := vl_zero_iff (rg y)
  generalize vl (rg x) = A at *
  generalize vl (rg y) = B at *
  generalize rg x = a at *
  generalize rg y = b at *
  cases sg x <;> cases sg y <;> simp <;> omega
theorem cmp_same {a b c d : Int} (h1 : a < b ↔ c < d) (h2 : b < a ↔ d < c) : compare a b = compare c d := by
  rcases Int.lt_trichotomy a b with z | z | z
  · rw [cmp_lt z, cmp_lt (h1.1 z)]
  · have : c = d := by omega
    subst z this
    rw [cmp_eq, cmp_eq]
  · rw [cmp_gt z, cmp_gt (h2.1 z)]
theorem key_in {x : Nat} (h : rg x < INF) : -(INF : Int) < key x ∧ key x < (INF : Int) := by
  unfold key
  split <;> omega
theorem key_inf {x : Nat} (h : rg x = INF) : key x = if sg x = true then -(INF : Int) else (INF : Int) := by unfold key; rw [h]
theorem order_key {x y : Nat} (hx : rg x ≤ INF) (hy : rg y ≤ INF) : FloatKind.f64.format.order x y = some (compare (key x) (key y)) := by
  have hI : (0 : Int) < (INF : Int) := by decide
  by_cases fx : rg x < INF
  · by_cases fy : rg y < INF
    · rw [order_fin fx fy, cmp_same (sv_lt_iff x y) (sv_lt_iff y x)]
    · have ey : rg y = INF := by omega
      have kx := key_in fx
      show Ieee.Datum.order _ _ = _
      rw [read_inf ey, read_gen fx, key_inf ey]
      cases sg y
      · simp only [Ieee.Datum.order, if_false, Bool.false_eq_true]
        rw [cmp_lt (by omega)]
      · simp only [Ieee.Datum.order, if_true]
        rw [cmp_gt (by omega)]
  · have ex : rg x = INF := by omega
    by_cases fy : rg y < INF
    · have ky := key_in fy
      show Ieee.Datum.order _ _ = _
      rw [read_inf ex, read_gen fy, key_inf ex]
      cases sg x
      · simp only [Ieee.Datum.order, if_false, Bool.false_eq_true]
        rw [cmp_gt (by omega)]
      · simp only [Ieee.Datum.order, if_true]
        rw [cmp_lt (by omega)]
    · have ey : rg y = INF := by omega
      show Ieee.Datum.order _ _ = _
      rw [read_inf ex, read_inf ey, key_inf ex, key_inf ey]
      cases sg x <;> cases sg y <;> decide
theorem key_word (s : Bool) {r : Nat} (h : r ≤ INF) : key (FloatKind.f64.format.word s r) = if s = true then -(r : Int) else (r : Int) := by
  obtain ⟨a, b⟩ := wd_parts s h
  unfold key
  rw [a, b]
/-- A whole number of least units, rounded. -/
def rdS (z : Bool) (S : Int) : Nat := FloatKind.f64.format.word (if S = 0 then z else decide (S < 0)) (rn S.natAbs (-1074))
theorem rdS_rg (z : Bool) (S : Int) : rg (rdS z S) = rn S.natAbs (-1074) := (wd_parts _ (rn_inf _ _)).1
theorem rn_zero (p : Int) : rn 0 p = 0 := by unfold rn; rw [if_pos rfl]
theorem rdS_key (z : Bool) (S : Int) : key (rdS z S) = if S < 0 then -(rn S.natAbs (-1074) : Int) else (rn S.natAbs (-1074) : Int) := by
  unfold rdS
  rw [key_word _ (rn_inf _ _)]
  by_cases h0 : S = 0
  · subst h0
    simp [rn_zero]
  · rw [if_neg h0]
    by_cases h1 : S < 0
    · rw [if_pos h1, decide_eq_true h1]; rfl
    · rw [if_neg h1, decide_eq_false h1]; rfl
theorem rdS_mono {y z : Bool} {S T : Int} (h : S ≤ T) : key (rdS y S) ≤ key (rdS z T) := by
  rw [rdS_key, rdS_key]
  by_cases hs : S < 0
  · rw [if_pos hs]
    by_cases ht : T < 0
    · rw [if_pos ht]
      have := rn_mono (m := T.natAbs) (n := S.natAbs) (p := -1074) (by omega)
      omega
    · rw [if_neg ht]
      omega
  · rw [if_neg hs, if_neg (by omega)]
    have := rn_mono (m := S.natAbs) (n := T.natAbs) (p := -1074) (by omega)
    omega
def sgn (s : Bool) (m : Nat) : Int := if s = true then -(m : Int) else (m : Int)
theorem sum_core (s t : Bool) (m n k l : Nat) : (Ieee.Datum.number s m (-1074 + (k : Int))).sum (.number t n (-1074 + (l : Int))) = some (.number (if sgn s (m * 2 ^ k) + sgn t (n * 2 ^ l) = 0 then s && t else decide (sgn s (m * 2 ^ k) + sgn t (n * 2 ^ l) < 0)) ((Ieee.signed s m (k - min k l) + Ieee.signed t n (l - min k l)).natAbs) (-1074 + ((min k l : Nat) : Int))) ∧ (Ieee.signed s m (k - min k l) + Ieee.signed t n (l - min k l)) * ((2 ^ min k l : Nat) : Int) = sgn s (m * 2 ^ k) + sgn t (n * 2 ^ l) := by
  have hb : min (-1074 + (k : Int)) (-1074 + (l : Int)) = -1074 + ((min k l : Nat) : Int) := by omega
  have e1 : (-1074 + (k : Int) - (-1074 + ((min k l : Nat) : Int))).toNat = k - min k l := by omega
  have e2 : (-1074 + (l : Int) - (-1074 + ((min k l : Nat) : Int))).toNat = l - min k l := by omega
  have hs : ∀ (s : Bool) (m k : Nat), min k l ≤ k → True := fun _ _ _ _ => trivial
  have sc : ∀ (s : Bool) (m k j : Nat), j ≤ k → Ieee.signed s m (k - j) * ((2 ^ j : Nat) : Int) = sgn s (m * 2 ^ k) := fun s m k j hj => by
    have e : m * 2 ^ k = m * 2 ^ (k - j) * 2 ^ j := by rw [Nat.mul_assoc, ← Nat.pow_add, show k - j + j = k by omega]
    unfold Ieee.signed sgn
    rw [Nat.shiftLeft_eq, e]
    cases s
    · simp
    · simp [Int.neg_mul]
  have key : (Ieee.signed s m (k - min k l) + Ieee.signed t n (l - min k l)) * ((2 ^ min k l : Nat) : Int) = sgn s (m * 2 ^ k) + sgn t (n * 2 ^ l) := by
    rw [Int.add_mul, sc s m k _ (by omega), sc t n l _ (by omega)]
  refine ⟨?_, key⟩
  simp only [Ieee.Datum.sum, hb, e1, e2]
  have hp : (0 : Int) < ((2 ^ min k l : Nat) : Int) := by have := Nat.two_pow_pos (min k l); omega
  have z1 : (Ieee.signed s m (k - min k l) + Ieee.signed t n (l - min k l) = 0) ↔ (sgn s (m * 2 ^ k) + sgn t (n * 2 ^ l) = 0) := by
    rw [← key]
    constructor
    · intro h; rw [h, Int.zero_mul]
    · intro h
      rcases Int.mul_eq_zero.1 h with q | q
      · exact q
      · omega
  have z2 : (Ieee.signed s m (k - min k l) + Ieee.signed t n (l - min k l) < 0) ↔ (sgn s (m * 2 ^ k) + sgn t (n * 2 ^ l) < 0) := by
    rw [← key]
    constructor
    · intro h; exact Int.mul_neg_of_neg_of_pos h hp
    · intro h
      rcases Int.lt_or_le (Ieee.signed s m (k - min k l) + Ieee.signed t n (l - min k l)) 0 with q | q
      · exact q
      · have := Int.mul_nonneg q (Int.le_of_lt hp); omega
  simp only [z1, z2]
theorem write_num (s : Bool) (m : Nat) (p : Int) : FloatKind.f64.format.write (.number s m p) = FloatKind.f64.format.word s (rn m p) := nearest_rn s m p
theorem sum_rd (s t : Bool) (m n k l : Nat) : ((Ieee.Datum.number s m (-1074 + (k : Int))).sum (.number t n (-1074 + (l : Int)))).map FloatKind.f64.format.write = some (rdS (s && t) (sgn s (m * 2 ^ k) + sgn t (n * 2 ^ l))) := by
  obtain ⟨h1, h2⟩ := sum_core s t m n k l
  rw [h1]
  show some (FloatKind.f64.format.write _) = _
  rw [write_num]
  unfold rdS
  have e : rn (Ieee.signed s m (k - min k l) + Ieee.signed t n (l - min k l)).natAbs (-1074 + ((min k l : Nat) : Int)) = rn (sgn s (m * 2 ^ k) + sgn t (n * 2 ^ l)).natAbs (-1074) := by
    rw [rn_at _ (p := -1074 + ((min k l : Nat) : Int)) (b := -1074) (by omega), ← h2, Int.natAbs_mul]
    congr 2
    rw [show (-1074 + ((min k l : Nat) : Int) - -1074).toNat = min k l by omega, Int.natAbs_natCast]
  rw [e]
theorem sv_sgn (x : Nat) : sv x = sgn (sg x) (mg (rg x) * 2 ^ kg (rg x)) := rfl
theorem fadd_rd {x y : Nat} (hx : rg x < INF) (hy : rg y < INF) : fRun .add x y = some (rdS (sg x && sg y) (sv x + sv y)) := by
  show Option.map _ _ = _
  rw [read_gen hx, read_gen hy, sum_rd, sv_sgn, sv_sgn]
theorem fsub_rd {x y : Nat} (hx : rg x < INF) (hy : rg y < INF) : fRun .sub x y = some (rdS (sg x && !sg y) (sv x - sv y)) := by
  show Option.map _ (Ieee.Datum.sum _ (Ieee.Datum.opposite _)) = _
  rw [read_gen hx, read_gen hy]
  show Option.map _ (Ieee.Datum.sum _ (.number (!sg y) _ _)) = _
  rw [sum_rd, sv_sgn, sv_sgn]
  congr 2
  unfold sgn
  cases sg y <;> simp <;> omega
/-- A number and the infinite one above 0. -/
theorem fadd_inf {x : Nat} (hx : rg x < INF) : fRun .add x INF = some INF := by
  show Option.map _ _ = _
  have e : FloatKind.f64.format.read INF = .infinity false := read_wdI false
  rw [read_gen hx, e]
  show some (FloatKind.f64.format.word false FloatKind.f64.format.infRung) = _
  rw [fmt_inf]
  rfl
theorem leV_vl {a b : Nat} (h : a ≤ b) : leV (mg a) (-1074 + (kg a : Int)) (mg b) (-1074 + (kg b : Int)) := by
  have hv := vl_le h
  unfold vl at hv
  unfold leV
  have e1 : (-1074 + (kg a : Int) - min (-1074 + (kg a : Int)) (-1074 + (kg b : Int))).toNat = kg a - min (kg a) (kg b) := by omega
  have e2 : (-1074 + (kg b : Int) - min (-1074 + (kg a : Int)) (-1074 + (kg b : Int))).toNat = kg b - min (kg a) (kg b) := by omega
  rw [e1, e2]
  refine Nat.le_of_mul_le_mul_right ?_ (Nat.two_pow_pos (min (kg a) (kg b)))
  rw [Nat.mul_assoc, ← Nat.pow_add, Nat.mul_assoc, ← Nat.pow_add, show kg a - min (kg a) (kg b) + min (kg a) (kg b) = kg a by omega, show kg b - min (kg a) (kg b) + min (kg a) (kg b) = kg b by omega]
  exact hv
theorem leV_mul {m n : Nat} {p q : Int} (c : Nat) (e : Int) (h : leV m p n q) : leV (c * m) (e + p) (c * n) (e + q) := by
  unfold leV at *
  have e1 : (e + p - min (e + p) (e + q)).toNat = (p - min p q).toNat := by omega
  have e2 : (e + q - min (e + p) (e + q)).toNat = (q - min p q).toNat := by omega
  rw [e1, e2, Nat.mul_assoc, Nat.mul_assoc]
  exact Nat.mul_le_mul_left c h
/-- What is asked of two words, a NaN being none: is the first at least the second? -/
def geO : Option Nat → Option Nat → Bool
  | some r, some y => decide (key y ≤ key r)
  | _, _ => false
theorem ge_yes {r x : Nat} {o X : Option Nat} (hr : Fl r o) (hx : Fl x X) (h : geO o X = true) : FloatKind.f64.format.order r x = some .gt ∨ FloatKind.f64.format.order r x = some .eq := by
  rcases hr.2 with ⟨a, rfl⟩ | ⟨a, rfl⟩
  · rcases hx.2 with ⟨b, rfl⟩ | ⟨b, rfl⟩
    · have hk : key x ≤ key r := of_decide_eq_true h
      rw [order_key a b]
      rcases Int.lt_or_eq_of_le hk with z | z
      · left; rw [cmp_gt z]
      · right; rw [z, cmp_eq]
    · cases h
  · cases h
theorem ge_no {r x : Nat} {o X : Option Nat} (hr : Fl r o) (hx : Fl x X) (h : geO o X = false) : FloatKind.f64.format.order r x = some .lt ∨ FloatKind.f64.format.order r x = none := by
  rcases hr.2 with ⟨a, rfl⟩ | ⟨a, rfl⟩
  · rcases hx.2 with ⟨b, rfl⟩ | ⟨b, rfl⟩
    · have hk : ¬ key x ≤ key r := of_decide_eq_false h
      rw [order_key a b]
      left
      rw [cmp_lt (by omega)]
    · right; exact order_nan_r b
  · right; exact order_nan_l a
end Go.Proofs.Ytjahjhddokaopaa
