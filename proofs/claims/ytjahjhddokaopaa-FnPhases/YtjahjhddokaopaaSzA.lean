/-
What is proved: the size of any float as the laws tell it; whether a pair is small; whether two pairs lie near one another.
-/
import Derived.Test.YtjahjhddokaopaaSzP
import Derived.Test.YtjahjhddokaopaaPairK
namespace Go.Proofs.Ytjahjhddokaopaa
set_option maxRecDepth 40000
open Go.ChangeShapes Go.WideShapes Go.ChangeAt Go.RowKit
set_option linter.unusedVariables false
set_option linter.unusedSimpArgs false

theorem key_rg {x : Nat} (h : sg x = true) : key (rg x) = -key x := by
  unfold key
  have e1 : sg (rg x) = false := by unfold sg rg; rw [show x % 9223372036854775808 / 9223372036854775808 = 0 by omega]; rfl
  have e2 : rg (rg x) = rg x := Nat.mod_eq_of_lt (Nat.mod_lt _ (by decide))
  rw [e1, e2, h]
  simp
theorem far_of {y c : Nat} (hy : rg y = INF) (hs : key y = (INF : Int)) (hc : Fin c) : FloatKind.f64.format.order y c = some .gt := by
  rw [order_key (by omega) (Nat.le_of_lt hc.2), hs]
  have := (key_in hc.2).2
  rw [Int.compare_eq_gt.2 this]
set_option maxHeartbeats 400000 in
theorem size_all (x : Nat) (lx : x < 18446744073709551616) (w : World) : Calls Try.prog 20 #[.float .f64 x] w fun e w' => ∃ y, e = .returned (.float .f64 y) ∧ ((Fin x ∧ Sized x y) ∨ ∀ c, Fin c → FloatKind.f64.format.order y c = none ∨ FloatKind.f64.format.order y c = some .gt) ∧ w' = w := by
  by_cases hf : rg x < INF
  · refine (size_any x ⟨lx, hf⟩ w).mono ?_
    rintro e w1 ⟨y, rfl, h, rfl⟩
    exact ⟨y, rfl, Or.inl ⟨⟨lx, hf⟩, h⟩, rfl⟩
  by_cases hn : INF < rg x
  · have k : FloatKind.f64.format.order x 0 = none := order_nan_l hn
    have HS : Hid (∀ c, Fin c → FloatKind.f64.format.order x c = none ∨ FloatKind.f64.format.order x c = some .gt) := fun c _ => Or.inl (order_nan_l hn)
    clear hf hn lx
    go_enter Try.func20, Try.ntmps20
    go_wp2
    go_ret
    exact ⟨x, rfl, Or.inr HS.out, rfl⟩
  have hi : rg x = INF := by omega
  have k0 := order_key (x := x) (y := 0) (by omega) (by decide)
  have e0 : key 0 = 0 := by decide
  rw [e0, key_inf hi] at k0
  cases hs : sg x
  · rw [hs] at k0
    have k : FloatKind.f64.format.order x 0 = some .gt := by rw [k0]; decide
    have HS : Hid (∀ c, Fin c → FloatKind.f64.format.order x c = none ∨ FloatKind.f64.format.order x c = some .gt) := fun c hc => Or.inr (far_of hi (by rw [key_inf hi, hs]; rfl) hc)
    clear hf hn lx hi k0 hs e0
    go_enter Try.func20, Try.ntmps20
    go_wp2
    go_ret
    exact ⟨x, rfl, Or.inr HS.out, rfl⟩
  · rw [hs] at k0
    have k : FloatKind.f64.format.order x 0 = some .lt := by rw [k0]; decide
    have hn' : ∀ w, Sem.run Try.prog (Op.unary UnOp.neg (Value.float .f64 x)) w = .ok (.float .f64 (rg x)) w := fun w => by rw [← neg_word lx hs]; exact neg_run x w
    have HS : Hid (∀ c, Fin c → FloatKind.f64.format.order (rg x) c = none ∨ FloatKind.f64.format.order (rg x) c = some .gt) := fun c hc => Or.inr (far_of (by rw [show rg (rg x) = rg x from Nat.mod_eq_of_lt (Nat.mod_lt _ (by decide))]; exact hi) (by rw [key_rg hs, key_inf hi, hs]; rfl) hc)
    clear hf hn lx hi k0 hs e0
    go_enter Try.func20, Try.ntmps20
    go_wp2
    go_ret
    exact ⟨rg x, rfl, Or.inr HS.out, rfl⟩
theorem lit3 : Fin 4643985272004935680 ∧ rv 4643985272004935680 = 300 := by
  refine ⟨⟨by decide, by decide⟩, ?_⟩
  have h := rv_lit (x := 4643985272004935680) (m := 5277655813324800) (k := 44) (by decide) (by decide) (by decide)
  have e : ((2 ^ 44 : Nat) : Rat) = 17592186044416 := by decide
  rw [e] at h
  have e2 : ((5277655813324800 : Nat) : Rat) = 5277655813324800 := by push_cast; rfl
  rw [e2] at h
  grind
theorem litm6 : Fin 4517329193108106637 ∧ 9 / 10000000 ≤ rv 4517329193108106637 := by
  refine ⟨⟨by decide, by decide⟩, ?_⟩
  have h := rv_lit (x := 4517329193108106637) (m := 4722366482869645) (k := 72) (by decide) (by decide) (by decide)
  have e : ((2 ^ 72 : Nat) : Rat) = 4722366482869645213696 := by decide
  rw [e] at h
  have e2 : ((4722366482869645 : Nat) : Rat) = 4722366482869645 := by push_cast; rfl
  rw [e2] at h
  grind
def In3 (x : Nat) : Prop := Fin x ∧ -300 ≤ rv x ∧ rv x ≤ 300
theorem in3_of {x y : Nat} (h : (Fin x ∧ Sized x y) ∨ ∀ c, Fin c → FloatKind.f64.format.order y c = none ∨ FloatKind.f64.format.order y c = some .gt) (ho : FloatKind.f64.format.order y 4643985272004935680 = some .lt ∨ FloatKind.f64.format.order y 4643985272004935680 = some .eq) : In3 x := by
  rcases h with ⟨fx, fy, y0, hy⟩ | h
  · have h1 : ¬ 300 < rv y := by
      intro q
      have := gt_rv fy lit3.1
      rw [lit3.2, decide_eq_true q] at this
      rcases ho with e | e <;> (rw [e] at this; cases this)
    refine ⟨fx, ?_, ?_⟩ <;> (rcases hy with e | e <;> grind)
  · rcases h _ lit3.1 with e | e <;> (rw [e] at ho; rcases ho with q | q <;> cases q)
set_option maxHeartbeats 2000000 in
theorem small_any (x y : Nat) (lx : x < 18446744073709551616) (ly : y < 18446744073709551616) (w : World) : Calls Try.prog 8 #[.agg #[.float .f64 x, .float .f64 y]] w fun e w' => ∃ b, e = .returned (.bool b) ∧ (b = true → In3 x ∧ In3 y) ∧ Below w.heap.size w w' := by
  go_enter Try.func8, Try.ntmps8
  go_wp2_with fail
  refine (size_all x lx _).mono ?_
  rintro e w1 ⟨z, rfl, h1, rfl⟩
  have H1 : Hid ((Fin x ∧ Sized x z) ∨ ∀ c, Fin c → FloatKind.f64.format.order z c = none ∨ FloatKind.f64.format.order z c = some .gt) := h1
  clear h1
  cases k1 : FloatKind.f64.format.order z 4643985272004935680 with
  | none =>
    go_wp2
    go_ret
    exact ⟨false, rfl, fun h => (by cases h), (by repeat (first | with_reducible exact Below.refl _ _ | with_reducible refine Below.setCell ?_ (by first | omega | (simp; done) | (simp; omega)) _ | with_reducible refine bDrewN ?_ _ | with_reducible refine Below.drew ?_ | with_reducible refine Below.alloc ?_ (by first | omega | (simp; done) | (simp; omega)) _))⟩
  | some o1 =>
    cases o1
    case gt =>
      go_wp2
      go_ret
      exact ⟨false, rfl, fun h => (by cases h), (by repeat (first | with_reducible exact Below.refl _ _ | with_reducible refine Below.setCell ?_ (by first | omega | (simp; done) | (simp; omega)) _ | with_reducible refine bDrewN ?_ _ | with_reducible refine Below.drew ?_ | with_reducible refine Below.alloc ?_ (by first | omega | (simp; done) | (simp; omega)) _))⟩
    all_goals
      have I1 : Hid (In3 x) := in3_of H1.out (by rw [k1]; simp)
      go_wp2_with fail
      refine (size_all y ly _).mono ?_
      rintro e w2 ⟨u, rfl, h2, rfl⟩
      have H2 : Hid ((Fin y ∧ Sized y u) ∨ ∀ c, Fin c → FloatKind.f64.format.order u c = none ∨ FloatKind.f64.format.order u c = some .gt) := h2
      clear h2
      cases k2 : FloatKind.f64.format.order u 4643985272004935680 with
      | none =>
        go_wp2
        go_ret
        exact ⟨false, rfl, fun h => (by cases h), (by repeat (first | with_reducible exact Below.refl _ _ | with_reducible refine Below.setCell ?_ (by first | omega | (simp; done) | (simp; omega)) _ | with_reducible refine bDrewN ?_ _ | with_reducible refine Below.drew ?_ | with_reducible refine Below.alloc ?_ (by first | omega | (simp; done) | (simp; omega)) _))⟩
      | some o2 =>
        cases o2
        case gt =>
          go_wp2
          go_ret
          exact ⟨false, rfl, fun h => (by cases h), (by repeat (first | with_reducible exact Below.refl _ _ | with_reducible refine Below.setCell ?_ (by first | omega | (simp; done) | (simp; omega)) _ | with_reducible refine bDrewN ?_ _ | with_reducible refine Below.drew ?_ | with_reducible refine Below.alloc ?_ (by first | omega | (simp; done) | (simp; omega)) _))⟩
        all_goals
          have I2 : Hid (In3 y) := in3_of H2.out (by rw [k2]; simp)
          go_wp2
          go_ret
          exact ⟨true, rfl, fun _ => ⟨I1.out, I2.out⟩, (by repeat (first | with_reducible exact Below.refl _ _ | with_reducible refine Below.setCell ?_ (by first | omega | (simp; done) | (simp; omega)) _ | with_reducible refine bDrewN ?_ _ | with_reducible refine Below.drew ?_ | with_reducible refine Below.alloc ?_ (by first | omega | (simp; done) | (simp; omega)) _))⟩
def Close (x a : Nat) : Prop := Fin x ∧ rv a - 1 / 10000000 ≤ rv x ∧ rv x ≤ rv a + 1 / 10000000
theorem close_of {x a d z : Nat} (hx : Close x a) (hn : Nr 1 (rv x - rv a) (rv d)) (hs : Sized d z) : (FloatKind.f64.format.order z 4517329193108106637 == some .lt) = true := by
  obtain ⟨fz, z0, hz⟩ := hs
  rw [lt_rv fz litm6.1]
  have h2 := litm6.2
  obtain ⟨fy, y1, y2⟩ := hx
  obtain ⟨n1, n2⟩ := hn
  apply decide_eq_true
  rcases hz with e | e <;> grind
set_option maxHeartbeats 2000000 in
theorem near_pair (x y a b : Nat) (hx : Hid (Close x a)) (hy : Hid (Close y b)) (ha : Hid (Fin a)) (hb : Hid (Fin b)) (w : World) : Calls Try.prog 11 #[.agg #[.float .f64 x, .float .f64 y], .agg #[.float .f64 a, .float .f64 b]] w fun e w' => e = .returned (.bool true) ∧ Below w.heap.size w w' := by
  obtain ⟨d0, rd0, fd0, nd0⟩ := rsub hx.out.1 ha.out 1 (by decide) (by have h1 := hx.out; unfold Close at h1; grind) (by have h1 := hx.out; unfold Close at h1; grind)
  obtain ⟨d1, rd1, fd1, nd1⟩ := rsub hy.out.1 hb.out 1 (by decide) (by have h1 := hy.out; unfold Close at h1; grind) (by have h1 := hy.out; unfold Close at h1; grind)
  have hop0 := fin_op (f := .sub) rfl rd0
  have hop1 := fin_op (f := .sub) rfl rd1
  have ND0 : Hid (Nr 1 (rv x - rv a) (rv d0)) := nd0
  have ND1 : Hid (Nr 1 (rv y - rv b) (rv d1)) := nd1
  have FD0 : Hid (Fin d0) := fd0
  have FD1 : Hid (Fin d1) := fd1
  clear rd0 rd1 fd0 fd1 nd0 nd1
  go_enter Try.func11, Try.ntmps11
  go_wp2_with fail
  refine (size_any d0 FD0.out _).mono ?_
  rintro e w1 ⟨z0, rfl, S0, rfl⟩
  have k0 := close_of hx.out ND0.out S0
  clear S0
  go_wp2_with fail
  refine (size_any d1 FD1.out _).mono ?_
  rintro e w2 ⟨z1, rfl, S1, rfl⟩
  have k1 := close_of hy.out ND1.out S1
  clear S1
  go_wp2
  go_ret
  exact ⟨rfl, (by repeat (first | with_reducible exact Below.refl _ _ | with_reducible refine Below.setCell ?_ (by first | omega | (simp; done) | (simp; omega)) _ | with_reducible refine bDrewN ?_ _ | with_reducible refine Below.drew ?_ | with_reducible refine Below.alloc ?_ (by first | omega | (simp; done) | (simp; omega)) _))⟩
end Go.Proofs.Ytjahjhddokaopaa
