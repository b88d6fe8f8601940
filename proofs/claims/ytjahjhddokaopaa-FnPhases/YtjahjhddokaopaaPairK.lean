/-
What is proved: what the sum, the difference, the product of two pairs, the turned pair and the sum of squares are, up to a NaN's bits, as both packages tell them; that the law tells two pairs to be equal that stand for the same numbers.
-/
import Derived.Test.YtjahjhddokaopaaSameF
import Derived.Deep.RegionHeld3
import Derived.Deep.DeepCutAuto
namespace Go.Proofs.Ytjahjhddokaopaa
set_option maxRecDepth 40000
open Go.RowKit
set_option linter.unusedVariables false
set_option linter.unusedSimpArgs false

/-- The parts of a product, of a turned pair, the sum of squares. -/
def mulRe (a b c d : Option Nat) : Option Nat := opO .sub (opO .mul a c) (opO .mul b d)
def mulIm (a b c d : Option Nat) : Option Nat := opO .add (opO .mul a d) (opO .mul b c)
def conjIm (b : Option Nat) : Option Nat := opO .sub (some 0) b
def normO (a b : Option Nat) : Option Nat := opO .add (opO .mul a a) (opO .mul b b)

theorem store_fp : ∀ (W : World) (a : Addr) (x : Nat), (W.cell? a).isSome = true → W.frozen? a = false → (store a (.float .f64 x)).run Try.prog W = .ok () (W.setCell a (.float .f64 x)) := fun W a x h hf => by
  obtain ⟨u, hu⟩ := Option.isSome_iff_exists.1 h
  rw [run_store Try.prog W a _ _ rfl, hu]
  simp [hf]

set_option maxHeartbeats 400000 in
theorem toPair_any (x y : Nat) (w : World) : Calls Try.prog 13 #[.agg #[.float .f64 x, .float .f64 y]] w fun e w' => e = .returned (.agg #[.float .f64 x, .float .f64 y]) ∧ w' = ((w.alloc (.cells #[.float .f64 x, .float .f64 y] 33)).alloc (.cells #[.float .f64 x, .float .f64 y] 26)).alloc (.cells #[.float .f64 x, .float .f64 y] 26) := by
  have st := store_fp
  go_enter Try.func13, Try.ntmps13
  go_wp2
  exact bodyPost_ret (v := .agg #[.float .f64 x, .float .f64 y]) (by simp [results, Try.results13, go_sem]) rfl ⟨rfl, rfl⟩

set_option maxHeartbeats 400000 in
theorem inside_any (x y : Nat) (w : World) : Calls Try.prog 21 #[.agg #[.float .f64 x, .float .f64 y]] w fun e w' => e = .returned (.complex .f64 x y) ∧ w' = w.alloc (.cells #[.float .f64 x, .float .f64 y] 26) := by
  go_enter Try.func21, Try.ntmps21
  go_wp2
  go_ret
  exact ⟨rfl, rfl⟩

set_option maxHeartbeats 400000 in
theorem pairOf_any (x y : Nat) (w : World) : Calls Try.prog 24 #[.complex .f64 x y] w fun e w' => e = .returned (.agg #[.float .f64 x, .float .f64 y]) ∧ w' = w.alloc (.cells #[.float .f64 x, .float .f64 y] 26) := by
  have st := store_fp
  go_enter Try.func24, Try.ntmps24
  go_wp2
  exact bodyPost_ret (v := .agg #[.float .f64 x, .float .f64 y]) (by simp [results, Try.results24, go_sem]) rfl ⟨rfl, rfl⟩

-- tail
theorem set_new2 (W : World) (a b c d : Value) (t : TypeId) (m k : Nat) (h : m = W.heap.size) : (((W.alloc (.cells #[a, b] t)).drewN k).setCell ⟨m, 0, none⟩ c).setCell ⟨m, 1, none⟩ d = (W.alloc (.cells #[c, d] t)).drewN k := by
  subst h
  have e : ((W.alloc (.cells #[a, b] t)).setCell ⟨W.heap.size, 0, none⟩ c).setCell ⟨W.heap.size, 1, none⟩ d = W.alloc (.cells #[c, d] t) := by simp [go_sem]
  rw [← e]
  rfl

set_option maxHeartbeats 1000000 in
theorem specAddPair_ex {x y z u : Nat} {a b c d : Option Nat} (hx : Fl x a) (hy : Fl y b) (hz : Fl z c) (hu : Fl u d) (w : World) : Calls Try.prog 31 #[.agg #[.float .f64 x, .float .f64 y], .agg #[.float .f64 z, .float .f64 u]] w fun e w' => ∃ r i n, e = .returned (.agg #[.float .f64 r, .float .f64 i]) ∧ Fl r (opO .add a c) ∧ Fl i (opO .add b d) ∧ w' = (((w.alloc (.cells #[.float .f64 x, .float .f64 y] 26)).alloc (.cells #[.float .f64 z, .float .f64 u] 26)).alloc (.cells #[.float .f64 r, .float .f64 i] 26)).drewN n := by
  have st := store_fp
  go_enter Try.func31, Try.ntmps31
  go_wp2_with (first
    | (refine list_fop .add rfl 24 24 (.tmp 6) (.tmp 8) (by rfl) (by rfl) (by rfl) (by rfl) hx hz ?_; intro r nr hr)
    | (refine list_fop .add rfl 24 24 (.tmp 11) (.tmp 13) (by rfl) (by rfl) (by rfl) (by rfl) hy hu ?_; intro i ni hi))
  exact bodyPost_ret (v := .agg #[.float .f64 r, .float .f64 i]) (by simp [results, Try.results31, go_sem]) rfl ⟨r, i, _, rfl, hr, hi, set_new2 _ _ _ _ _ _ _ _ (by simp)⟩
theorem specAddPair_any {x y z u : Nat} {a b c d : Option Nat} (hx : Fl x a) (hy : Fl y b) (hz : Fl z c) (hu : Fl u d) (w : World) : Calls Try.prog 31 #[.agg #[.float .f64 x, .float .f64 y], .agg #[.float .f64 z, .float .f64 u]] w fun e w' => ∃ r i, e = .returned (.agg #[.float .f64 r, .float .f64 i]) ∧ Fl r (opO .add a c) ∧ Fl i (opO .add b d) ∧ Below w.heap.size w w' := by
  refine (specAddPair_ex hx hy hz hu w).mono ?_
  rintro e w' ⟨r, i, n, rfl, hr, hi, rfl⟩
  exact ⟨r, i, rfl, hr, hi, (by repeat (first | with_reducible exact Below.refl _ _ | with_reducible refine Below.setCell ?_ (by first | omega | (simp; done) | (simp; omega)) _ | with_reducible refine bDrewN ?_ _ | with_reducible refine Below.drew ?_ | with_reducible refine Below.alloc ?_ (by first | omega | (simp; done) | (simp; omega)) _))⟩

set_option maxHeartbeats 1000000 in
theorem addInside_any {x y z u : Nat} {a b c d : Option Nat} (hx : Fl x a) (hy : Fl y b) (hz : Fl z c) (hu : Fl u d) (w : World) : Calls Try.prog 26 #[.complex .f64 x y, .complex .f64 z u] w fun e w' => ∃ r i n, e = .returned (.complex .f64 r i) ∧ Fl r (opO .add a c) ∧ Fl i (opO .add b d) ∧ w' = w.drewN n := by
  go_enter Try.func26, Try.ntmps26
  go_wp2_with (first
    | (refine list_fop .add rfl 24 24 (.tmp 6) (.tmp 8) (by rfl) (by rfl) (by rfl) (by rfl) hx hz ?_; intro r nr hr)
    | (refine list_fop .add rfl 24 24 (.tmp 11) (.tmp 13) (by rfl) (by rfl) (by rfl) (by rfl) hy hu ?_; intro i ni hi))
  go_ret
  exact ⟨r, i, nr + ni, rfl, hr, hi, by simp [Nat.add_assoc]⟩

set_option maxHeartbeats 1000000 in
theorem specMulPair_ex {x y z u : Nat} {a b c d : Option Nat} (hx : Fl x a) (hy : Fl y b) (hz : Fl z c) (hu : Fl u d) (w : World) : Calls Try.prog 37 #[.agg #[.float .f64 x, .float .f64 y], .agg #[.float .f64 z, .float .f64 u]] w fun e w' => ∃ r i n, e = .returned (.agg #[.float .f64 r, .float .f64 i]) ∧ Fl r (mulRe a b c d) ∧ Fl i (mulIm a b c d) ∧ w' = (((w.alloc (.cells #[.float .f64 x, .float .f64 y] 26)).alloc (.cells #[.float .f64 z, .float .f64 u] 26)).alloc (.cells #[.float .f64 r, .float .f64 i] 26)).drewN n := by
  have st := store_fp
  go_enter Try.func37, Try.ntmps37
  go_wp2_with (first
    | (refine list_fop .mul rfl 24 24 (.tmp 6) (.tmp 8) (by rfl) (by rfl) (by rfl) (by rfl) hx hz ?_; intro p np hp)
    | (refine list_fop .mul rfl 24 24 (.tmp 11) (.tmp 13) (by rfl) (by rfl) (by rfl) (by rfl) hy hu ?_; intro q nq hq)
    | (refine list_fop .sub rfl 24 24 (.tmp 9) (.tmp 14) (by rfl) (by rfl) (by rfl) (by rfl) hp hq ?_; intro r nr hr)
    | (refine list_fop .mul rfl 24 24 (.tmp 17) (.tmp 19) (by rfl) (by rfl) (by rfl) (by rfl) hx hu ?_; intro s ns hs)
    | (refine list_fop .mul rfl 24 24 (.tmp 22) (.tmp 24) (by rfl) (by rfl) (by rfl) (by rfl) hy hz ?_; intro t nt ht)
    | (refine list_fop .add rfl 24 24 (.tmp 20) (.tmp 25) (by rfl) (by rfl) (by rfl) (by rfl) hs ht ?_; intro i ni hi))
  exact bodyPost_ret (v := .agg #[.float .f64 r, .float .f64 i]) (by simp [results, Try.results37, go_sem]) rfl ⟨r, i, _, rfl, hr, hi, set_new2 _ _ _ _ _ _ _ _ (by simp)⟩
theorem specMulPair_any {x y z u : Nat} {a b c d : Option Nat} (hx : Fl x a) (hy : Fl y b) (hz : Fl z c) (hu : Fl u d) (w : World) : Calls Try.prog 37 #[.agg #[.float .f64 x, .float .f64 y], .agg #[.float .f64 z, .float .f64 u]] w fun e w' => ∃ r i, e = .returned (.agg #[.float .f64 r, .float .f64 i]) ∧ Fl r (mulRe a b c d) ∧ Fl i (mulIm a b c d) ∧ Below w.heap.size w w' := by
  refine (specMulPair_ex hx hy hz hu w).mono ?_
  rintro e w' ⟨r, i, n, rfl, hr, hi, rfl⟩
  exact ⟨r, i, rfl, hr, hi, (by repeat (first | with_reducible exact Below.refl _ _ | with_reducible refine Below.setCell ?_ (by first | omega | (simp; done) | (simp; omega)) _ | with_reducible refine bDrewN ?_ _ | with_reducible refine Below.drew ?_ | with_reducible refine Below.alloc ?_ (by first | omega | (simp; done) | (simp; omega)) _))⟩

set_option maxHeartbeats 1000000 in
theorem mulInside_any {x y z u : Nat} {a b c d : Option Nat} (hx : Fl x a) (hy : Fl y b) (hz : Fl z c) (hu : Fl u d) (w : World) : Calls Try.prog 27 #[.complex .f64 x y, .complex .f64 z u] w fun e w' => ∃ r i n, e = .returned (.complex .f64 r i) ∧ Fl r (mulRe a b c d) ∧ Fl i (mulIm a b c d) ∧ w' = w.drewN n := by
  go_enter Try.func27, Try.ntmps27
  go_wp2_with (first
    | (refine list_fop .mul rfl 24 24 (.tmp 6) (.tmp 8) (by rfl) (by rfl) (by rfl) (by rfl) hx hz ?_; intro p np hp)
    | (refine list_fop .mul rfl 24 24 (.tmp 11) (.tmp 13) (by rfl) (by rfl) (by rfl) (by rfl) hy hu ?_; intro q nq hq)
    | (refine list_fop .sub rfl 24 24 (.tmp 9) (.tmp 14) (by rfl) (by rfl) (by rfl) (by rfl) hp hq ?_; intro r nr hr)
    | (refine list_fop .mul rfl 24 24 (.tmp 17) (.tmp 19) (by rfl) (by rfl) (by rfl) (by rfl) hx hu ?_; intro s ns hs)
    | (refine list_fop .mul rfl 24 24 (.tmp 22) (.tmp 24) (by rfl) (by rfl) (by rfl) (by rfl) hy hz ?_; intro t nt ht)
    | (refine list_fop .add rfl 24 24 (.tmp 20) (.tmp 25) (by rfl) (by rfl) (by rfl) (by rfl) hs ht ?_; intro i ni hi))
  go_ret
  exact ⟨r, i, np + nq + nr + ns + nt + ni, rfl, hr, hi, by simp [Nat.add_assoc]⟩

set_option maxHeartbeats 1000000 in
theorem eqPair_any {x y z u : Nat} {a b : Option Nat} (hx : Fl x a) (hy : Fl y b) (hz : Fl z a) (hu : Fl u b) (w : World) : Calls Try.prog 33 #[.agg #[.float .f64 x, .float .f64 y], .agg #[.float .f64 z, .float .f64 u]] w fun e w' => e = .returned (.bool true) ∧ Below w.heap.size w w' := by
  have S1 : Hid (∀ w, Calls Try.prog 38 #[.float .f64 x, .float .f64 z] w fun e w' => e = .returned (.bool true) ∧ w' = w) := fun w => sameFloat_any hx hz w
  have S2 : Hid (∀ w, Calls Try.prog 38 #[.float .f64 y, .float .f64 u] w fun e w' => e = .returned (.bool true) ∧ w' = w) := fun w => sameFloat_any hy hu w
  go_enter Try.func33, Try.ntmps33
  go_wp2_with fail
  refine (S1.out _).mono ?_
  rintro e w1 ⟨rfl, rfl⟩
  go_wp2_with fail
  refine (S2.out _).mono ?_
  rintro e w1 ⟨rfl, rfl⟩
  go_wp2
  go_ret
  exact ⟨rfl, (by repeat (first | with_reducible exact Below.refl _ _ | with_reducible refine Below.setCell ?_ (by first | omega | (simp; done) | (simp; omega)) _ | with_reducible refine bDrewN ?_ _ | with_reducible refine Below.drew ?_ | with_reducible refine Below.alloc ?_ (by first | omega | (simp; done) | (simp; omega)) _))⟩
end Go.Proofs.Ytjahjhddokaopaa
