/-
What is proved: float64s told up to what a NaN's bits are: a word stands for a number's word or for none; what each operation gives then, whatever the tape answers; how two stand to each other.
-/
import Derived.Test.YtjahjhddokaopaaFp
namespace Go.Proofs.Ytjahjhddokaopaa
set_option maxRecDepth 40000
open Go.RowKit
set_option linter.unusedVariables false

theorem word_fin (s : Bool) (r : Nat) (h : r ≤ INF) : rg (FloatKind.f64.format.word s r) ≤ INF ∧ FloatKind.f64.format.word s r < 18446744073709551616 := by
  unfold Ieee.Format.word
  rw [fmt_sign]
  unfold rg
  have : INF < 9223372036854775808 := by decide
  split <;> omega
theorem write_fin (d : Ieee.Datum) (h : d.isNaN = false) : rg (FloatKind.f64.format.write d) ≤ INF ∧ FloatKind.f64.format.write d < 18446744073709551616 := by
  cases d with
  | number s m e =>
    show rg (FloatKind.f64.format.nearest s m e) ≤ INF ∧ FloatKind.f64.format.nearest s m e < 18446744073709551616
    unfold Ieee.Format.nearest
    split
    · exact word_fin s 0 (Nat.zero_le _)
    · refine word_fin s _ ?_
      rw [fmt_inf]
      exact Nat.min_le_right _ _
  | infinity s =>
    show rg (FloatKind.f64.format.word s FloatKind.f64.format.infRung) ≤ INF ∧ FloatKind.f64.format.word s FloatKind.f64.format.infRung < 18446744073709551616
    rw [fmt_inf]
    exact word_fin s _ (Nat.le_refl _)
  | nan s t => cases h
theorem sum_fin {a b d : Ieee.Datum} (h : a.sum b = some d) : d.isNaN = false := by
  cases a <;> cases b <;> simp only [Ieee.Datum.sum] at h
  all_goals first
    | (cases h; done)
    | (obtain rfl := Option.some.inj h; rfl)
    | (split at h <;> first | (cases h; done) | (obtain rfl := Option.some.inj h; rfl))
theorem product_fin {a b d : Ieee.Datum} (h : a.product b = some d) : d.isNaN = false := by
  cases a <;> cases b <;> simp only [Ieee.Datum.product] at h
  all_goals first
    | (cases h; done)
    | (obtain rfl := Option.some.inj h; rfl)
    | (split at h <;> first | (cases h; done) | (obtain rfl := Option.some.inj h; rfl))
theorem quotient_fin {n : Nat} {a b d : Ieee.Datum} (h : a.quotient n b = some d) : d.isNaN = false := by
  cases a <;> cases b <;> simp only [Ieee.Datum.quotient] at h
  all_goals first
    | (cases h; done)
    | (obtain rfl := Option.some.inj h; rfl)
    | (split at h
       · split at h <;> first | (cases h; done) | (obtain rfl := Option.some.inj h; rfl)
       · obtain rfl := Option.some.inj h; rfl)

/-- The four operations of float64s, 'none' where the result is a NaN. -/
def isF : BinOp → Bool
  | .add => true
  | .sub => true
  | .mul => true
  | .quo => true
  | _ => false
def fRun : BinOp → Nat → Nat → Option Nat
  | .add => FloatKind.f64.format.add
  | .sub => FloatKind.f64.format.sub
  | .mul => FloatKind.f64.format.mul
  | .quo => FloatKind.f64.format.div
  | _ => fun _ _ => none
theorem isF_four {f : BinOp} (h : isF f = true) : f = .add ∨ f = .sub ∨ f = .mul ∨ f = .quo := by
  cases f <;> first | (cases h; done) | simp
theorem fRun_fin {f : BinOp} (hf : isF f = true) {x y r : Nat} (h : fRun f x y = some r) : rg r ≤ INF ∧ r < 18446744073709551616 := by
  rcases isF_four hf with rfl | rfl | rfl | rfl
  all_goals
    obtain ⟨d, h1, rfl⟩ := Option.map_eq_some_iff.1 h
    first | exact write_fin d (sum_fin h1) | exact write_fin d (product_fin h1) | exact write_fin d (quotient_fin h1)
theorem fRun_nan_l {f : BinOp} (hf : isF f = true) {x : Nat} (y : Nat) (h : INF < rg x) : fRun f x y = none := by
  rcases isF_four hf with rfl | rfl | rfl | rfl
  · show ((FloatKind.f64.format.read x).sum _).map _ = none
    rw [read_nan h]; rfl
  · show ((FloatKind.f64.format.read x).sum _).map _ = none
    rw [read_nan h]; rfl
  · show ((FloatKind.f64.format.read x).product _).map _ = none
    rw [read_nan h]; rfl
  · show ((FloatKind.f64.format.read x).quotient _ _).map _ = none
    rw [read_nan h]; rfl
theorem fRun_nan_r {f : BinOp} (hf : isF f = true) (x : Nat) {y : Nat} (h : INF < rg y) : fRun f x y = none := by
  rcases isF_four hf with rfl | rfl | rfl | rfl
  · show ((FloatKind.f64.format.read x).sum (FloatKind.f64.format.read y)).map _ = none
    rw [read_nan h]; cases FloatKind.f64.format.read x <;> rfl
  · show ((FloatKind.f64.format.read x).sum (FloatKind.f64.format.read y).opposite).map _ = none
    rw [read_nan h]; cases FloatKind.f64.format.read x <;> rfl
  · show ((FloatKind.f64.format.read x).product (FloatKind.f64.format.read y)).map _ = none
    rw [read_nan h]; cases FloatKind.f64.format.read x <;> rfl
  · show ((FloatKind.f64.format.read x).quotient _ (FloatKind.f64.format.read y)).map _ = none
    rw [read_nan h]; cases FloatKind.f64.format.read x <;> rfl
theorem fRun_ran {P : Program} {f : BinOp} (hf : isF f = true) (t : TypeId) (x y : Nat) (w : World) : (binOp f t (.float .f64 x) (.float .f64 y)).run P w = match fRun f x y with | some r => .ok (.float .f64 r) w | none => .ok (.float .f64 (nanA w (.nanBits .f64 x y))) w.drew := by
  rcases isF_four hf with rfl | rfl | rfl | rfl
  · show (binOp .add t (.float .f64 x) (.float .f64 y)).run P w = match FloatKind.f64.format.add x y with | some r => .ok (.float .f64 r) w | none => .ok (.float .f64 (nanA w (.nanBits .f64 x y))) w.drew
    cases h : FloatKind.f64.format.add x y <;> simp [binOp, Op.floatArith, h, nanA, Question.forced]
  · show (binOp .sub t (.float .f64 x) (.float .f64 y)).run P w = match FloatKind.f64.format.sub x y with | some r => .ok (.float .f64 r) w | none => .ok (.float .f64 (nanA w (.nanBits .f64 x y))) w.drew
    cases h : FloatKind.f64.format.sub x y <;> simp [binOp, Op.floatArith, h, nanA, Question.forced]
  · show (binOp .mul t (.float .f64 x) (.float .f64 y)).run P w = match FloatKind.f64.format.mul x y with | some r => .ok (.float .f64 r) w | none => .ok (.float .f64 (nanA w (.nanBits .f64 x y))) w.drew
    cases h : FloatKind.f64.format.mul x y <;> simp [binOp, Op.floatArith, h, nanA, Question.forced]
  · show (binOp .quo t (.float .f64 x) (.float .f64 y)).run P w = match FloatKind.f64.format.div x y with | some r => .ok (.float .f64 r) w | none => .ok (.float .f64 (nanA w (.nanBits .f64 x y))) w.drew
    cases h : FloatKind.f64.format.div x y <;> simp [binOp, Op.floatArith, h, nanA, Question.forced]
/-- A word stands for what o says: its own number's word, or none where it is a NaN. -/
def Fl (x : Nat) (o : Option Nat) : Prop := x < 18446744073709551616 ∧ ((rg x ≤ INF ∧ o = some x) ∨ (INF < rg x ∧ o = none))
def opO (f : BinOp) : Option Nat → Option Nat → Option Nat
  | some x, some y => fRun f x y
  | _, _ => none
def ofW (x : Nat) : Option Nat := if INF < rg x then none else some x
theorem fl_of (x : Nat) (h : x < 18446744073709551616) : Fl x (ofW x) := by
  refine ⟨h, ?_⟩
  unfold ofW
  by_cases q : INF < rg x
  · right; exact ⟨q, if_pos q⟩
  · left; exact ⟨by omega, if_neg q⟩
theorem fl_zero : Fl 0 (some 0) := ⟨by decide, .inl ⟨by decide, rfl⟩⟩
theorem Fl.one {x : Nat} {o o' : Option Nat} (h : Fl x o) (g : Fl x o') : o = o' := by
  rcases h.2 with ⟨a, rfl⟩ | ⟨a, rfl⟩ <;> rcases g.2 with ⟨b, rfl⟩ | ⟨b, rfl⟩
  · rfl
  · omega
  · omega
  · rfl
theorem fl_run {P : Program} {f : BinOp} (ff : isF f = true) (t : TypeId) {x y : Nat} {a b : Option Nat} (hx : Fl x a) (hy : Fl y b) (w : World) : ∃ r n, (binOp f t (.float .f64 x) (.float .f64 y)).run P w = .ok (.float .f64 r) (w.drewN n) ∧ Fl r (opO f a b) := by
  rw [fRun_ran ff]
  have nn : ∀ {x y : Nat}, fRun f x y = none → opO f a b = none → ∃ r n, (match fRun f x y with | some r => Result.ok (Value.float .f64 r) w | none => .ok (.float .f64 (nanA w (.nanBits .f64 x y))) w.drew) = .ok (.float .f64 r) (w.drewN n) ∧ Fl r (opO f a b) := fun {x y} h1 h2 => by
    rw [h1, h2]
    exact ⟨_, 1, rfl, nanA_lt _ _ _, .inr ⟨nanA_nan _ _ _, rfl⟩⟩
  rcases hx.2 with ⟨p, rfl⟩ | ⟨p, rfl⟩
  · rcases hy.2 with ⟨q, rfl⟩ | ⟨q, rfl⟩
    · cases h : fRun f x y with
      | none => have := nn (x := x) (y := y) h (by show fRun f x y = none; exact h); rw [h] at this; exact this
      | some r =>
        obtain ⟨z1, z2⟩ := fRun_fin ff h
        exact ⟨r, 0, rfl, z2, .inl ⟨z1, by show fRun f x y = _; exact h⟩⟩
    · exact nn (fRun_nan_r ff x q) rfl
  · exact nn (fRun_nan_l ff y p) (by cases b <;> rfl)
theorem guard_fop {f : BinOp} (ff : isF f = true) (t : TypeId) (x y : Operand) (u v : Value) (w : World) : (eqGuard f t x y u v).run Try.prog w = .ok () w := by
  rcases isF_four ff with rfl | rfl | rfl | rfl <;> rfl
theorem wp_fop {o : Oper} {a : Act} {w : World} {K : Act → World → Prop} {Q : Exit → Act → World → Prop} {f : BinOp} (ff : isF f = true) (t t' : TypeId) (x y : Operand) (ho : o.op = .binOp f t x y t') {p q : Nat} {oa ob : Option Nat} (hx : a.eval x = .float .f64 p) (hy : a.eval y = .float .f64 q) (hp : Fl p oa) (hq : Fl q ob)
    (h : ∀ r n, Fl r (opO f oa ob) → K (a.put o.dst (.float .f64 r)) (w.drewN n)) : o.wp Try.prog a w K Q := by
  obtain ⟨r, n, hr, hf⟩ := fl_run (P := Try.prog) ff t hp hq w
  unfold Oper.wp execOp
  simp only [ho, Sem.run_bind, hx, hy, guard_fop ff, hr, Result.andThen_ok]
  exact h r n hf
/-- A float64's operation as one step of a plain statement. -/
theorem list_fop {ops : Array Oper} {rest : List Oper} {o : Oper} {a : Act} {w : World} {Q : Exit → Act → World → Prop} (f : BinOp) (ff : isF f = true) (t t' : TypeId) (x y : Operand) (hgd : o.guard = none) (ho : o.op = .binOp f t x y t') {p q : Nat} {oa ob : Option Nat} (hx : a.eval x = .float .f64 p) (hy : a.eval y = .float .f64 q) (hp : Fl p oa) (hq : Fl q ob)
    (h : ∀ r n, Fl r (opO f oa ob) → wpList Try.prog ops Q rest (a.put o.dst (.float .f64 r)) (w.drewN n)) : wpList Try.prog ops Q (o :: rest) a w :=
  wpList_plain hgd fun _ hK => wp_fop ff t t' x y ho hx hy hp hq fun r n hf => hK _ _ (h r n hf)
/-- The same in a statement that draws its order. -/
theorem step_fop {ops : Array Oper} {o : Oper} {a : Act} {w : World} {K : Act → World → Prop} {Q : Exit → Act → World → Prop} {E : Prop} (f : BinOp) (ff : isF f = true) (t t' : TypeId) (x y : Operand) (hgd : o.guard = none) (ho : o.op = .binOp f t x y t') {p q : Nat} {oa ob : Option Nat} (hx : a.eval x = .float .f64 p) (hy : a.eval y = .float .f64 q) (hp : Fl p oa) (hq : Fl q ob)
    (h : ∀ r n, Fl r (opO f oa ob) → K (a.put o.dst (.float .f64 r)) (w.drewN n)) : if Region.wanted o (yielded ops a.tmps) = true then Oper.wp Try.prog o a w K Q else E := by
  have hw : Region.wanted o (yielded ops a.tmps) = true := by simp [Region.wanted, hgd]
  rw [if_pos hw]
  exact wp_fop ff t t' x y ho hx hy hp hq h
/-- How two stand to each other. -/
def ordO : Option Nat → Option Nat → Option Ordering
  | some x, some y => FloatKind.f64.format.order x y
  | _, _ => none
theorem fl_order {x y : Nat} {a b : Option Nat} (hx : Fl x a) (hy : Fl y b) : FloatKind.f64.format.order x y = ordO a b := by
  rcases hx.2 with ⟨p, rfl⟩ | ⟨p, rfl⟩
  · rcases hy.2 with ⟨q, rfl⟩ | ⟨q, rfl⟩
    · rfl
    · exact order_nan_r q
  · rw [order_nan_l p]; cases b <;> rfl
end Go.Proofs.Ytjahjhddokaopaa
