/-
What is proved: what the sum, the difference, the product of two pairs, the turned pair and the sum of squares are, up to a NaN's bits, as both packages tell them; that the law tells two pairs to be equal that stand for the same numbers.
-/
import Derived.Test.YtedkhhocbnldjaaSameF
import Derived.Deep.RegionHeld3
import Derived.Deep.DeepCutAuto
namespace Go.Proofs.Ytedkhhocbnldjaa
set_option maxRecDepth 40000
open Go.RowKit
set_option linter.unusedVariables false
set_option linter.unusedSimpArgs false

/-- The parts of a product, of a turned pair, the sum of squares. -/
def mulRe (a b c d : Option Nat) : Option Nat := opO .sub (opO .mul a c) (opO .mul b d)
def mulIm (a b c d : Option Nat) : Option Nat := opO .add (opO .mul a d) (opO .mul b c)
def conjIm (b : Option Nat) : Option Nat := opO .sub (some 0) b
def normO (a b : Option Nat) : Option Nat := opO .add (opO .mul a a) (opO .mul b b)

theorem store_fp : ∀ (W : World) (a : Addr) (x : Nat), (W.cell? a).isSome = true → W.frozen? a = false → (store a (.float .f64 x)).run Try.prog W = .ok () (W.setCell a (.float .f64 x)) := fun W a x h hf => by
  obtain ⟨u, hu⟩ := Option.isSome_iff_exists.1 h
  rw [run_store Try.prog W a _ _ rfl, hu]
  simp [hf]

set_option maxHeartbeats 400000 in
theorem toPair_any (x y : Nat) (w : World) : Calls Try.prog 9 #[.agg #[.float .f64 x, .float .f64 y]] w fun e w' => e = .returned (.agg #[.float .f64 x, .float .f64 y]) ∧ w' = ((w.alloc (.cells #[.float .f64 x, .float .f64 y] 24)).alloc (.cells #[.float .f64 x, .float .f64 y] 28)).alloc (.cells #[.float .f64 x, .float .f64 y] 28) := by
  have st := store_fp
  go_enter Try.func9, Try.ntmps9
  go_wp2
  exact bodyPost_ret (v := .agg #[.float .f64 x, .float .f64 y]) (by simp [results, Try.results9, go_sem]) rfl ⟨rfl, rfl⟩

set_option maxHeartbeats 400000 in
theorem inside_any (x y : Nat) (w : World) : Calls Try.prog 46 #[.agg #[.float .f64 x, .float .f64 y]] w fun e w' => e = .returned (.complex .f64 x y) ∧ w' = w.alloc (.cells #[.float .f64 x, .float .f64 y] 28) := by
  go_enter Try.func46, Try.ntmps46
  go_wp2
  go_ret
  exact ⟨rfl, rfl⟩

set_option maxHeartbeats 400000 in
theorem pairOf_any (x y : Nat) (w : World) : Calls Try.prog 44 #[.complex .f64 x y] w fun e w' => e = .returned (.agg #[.float .f64 x, .float .f64 y]) ∧ w' = w.alloc (.cells #[.float .f64 x, .float .f64 y] 28) := by
  have st := store_fp
  go_enter Try.func44, Try.ntmps44
  go_wp2
  exact bodyPost_ret (v := .agg #[.float .f64 x, .float .f64 y]) (by simp [results, Try.results44, go_sem]) rfl ⟨rfl, rfl⟩

-- tail
theorem set_new2 (W : World) (a b c d : Value) (t : TypeId) (m k : Nat) (h : m = W.heap.size) : (((W.alloc (.cells #[a, b] t)).drewN k).setCell ⟨m, 0, none⟩ c).setCell ⟨m, 1, none⟩ d = (W.alloc (.cells #[c, d] t)).drewN k := by
  subst h
  have e : ((W.alloc (.cells #[a, b] t)).setCell ⟨W.heap.size, 0, none⟩ c).setCell ⟨W.heap.size, 1, none⟩ d = W.alloc (.cells #[c, d] t) := by simp [go_sem]
  rw [← e]
  rfl

set_option maxHeartbeats 1000000 in
theorem specAddPair_ex {x y z u : Nat} {a b c d : Option Nat} (hx : Fl x a) (hy : Fl y b) (hz : Fl z c) (hu : Fl u d) (w : World) : Calls Try.prog 29 #[.agg #[.float .f64 x, .float .f64 y], .agg #[.float .f64 z, .float .f64 u]] w fun e w' => ∃ r i n, e = .returned (.agg #[.float .f64 r, .float .f64 i]) ∧ Fl r (opO .add a c) ∧ Fl i (opO .add b d) ∧ w' = (((w.alloc (.cells #[.float .f64 x, .float .f64 y] 28)).alloc (.cells #[.float .f64 z, .float .f64 u] 28)).alloc (.cells #[.float .f64 r, .float .f64 i] 28)).drewN n := by
  have st := store_fp
  go_enter Try.func29, Try.ntmps29
  go_wp2_with (first
    | (refine list_fop .add rfl 22 22 (.tmp 6) (.tmp 8) (by rfl) (by rfl) (by rfl) (by rfl) hx hz ?_; intro r nr hr)
    | (refine list_fop .add rfl 22 22 (.tmp 11) (.tmp 13) (by rfl) (by rfl) (by rfl) (by rfl) hy hu ?_; intro i ni hi))
  exact bodyPost_ret (v := .agg #[.float .f64 r, .float .f64 i]) (by simp [results, Try.results29, go_sem]) rfl ⟨r, i, _, rfl, hr, hi, set_new2 _ _ _ _ _ _ _ _ (by simp)⟩
theorem specAddPair_any {x y z u : Nat} {a b c d : Option Nat} (hx : Fl x a) (hy : Fl y b) (hz : Fl z c) (hu : Fl u d) (w : World) : Calls Try.prog 29 #[.agg #[.float .f64 x, .float .f64 y], .agg #[.float .f64 z, .float .f64 u]] w fun e w' => ∃ r i, e = .returned (.agg #[.float .f64 r, .float .f64 i]) ∧ Fl r (opO .add a c) ∧ Fl i (opO .add b d) ∧ Below w.heap.size w w' := by
  refine (specAddPair_ex hx hy hz hu w).mono ?_
  rintro e w' ⟨r, i, n, rfl, hr, hi, rfl⟩
  exact ⟨r, i, rfl, hr, hi, (by repeat (first | with_reducible exact Below.refl _ _ | with_reducible refine Below.setCell ?_ (by first | omega | (simp; done) | (simp; omega)) _ | with_reducible refine bDrewN ?_ _ | with_reducible refine Below.drew ?_ | with_reducible refine Below.alloc ?_ (by first | omega | (simp; done) | (simp; omega)) _))⟩

set_option maxHeartbeats 1000000 in
theorem addInside_any {x y z u : Nat} {a b c d : Option Nat} (hx : Fl x a) (hy : Fl y b) (hz : Fl z c) (hu : Fl u d) (w : World) : Calls Try.prog 50 #[.complex .f64 x y, .complex .f64 z u] w fun e w' => ∃ r i n, e = .returned (.complex .f64 r i) ∧ Fl r (opO .add a c) ∧ Fl i (opO .add b d) ∧ w' = w.drewN n := by
  go_enter Try.func50, Try.ntmps50
  go_wp2_with (first
    | (refine list_fop .add rfl 22 22 (.tmp 6) (.tmp 8) (by rfl) (by rfl) (by rfl) (by rfl) hx hz ?_; intro r nr hr)
    | (refine list_fop .add rfl 22 22 (.tmp 11) (.tmp 13) (by rfl) (by rfl) (by rfl) (by rfl) hy hu ?_; intro i ni hi))
  go_ret
  exact ⟨r, i, nr + ni, rfl, hr, hi, by simp [Nat.add_assoc]⟩

set_option maxHeartbeats 1000000 in
theorem specSubPair_ex {x y z u : Nat} {a b c d : Option Nat} (hx : Fl x a) (hy : Fl y b) (hz : Fl z c) (hu : Fl u d) (w : World) : Calls Try.prog 23 #[.agg #[.float .f64 x, .float .f64 y], .agg #[.float .f64 z, .float .f64 u]] w fun e w' => ∃ r i n, e = .returned (.agg #[.float .f64 r, .float .f64 i]) ∧ Fl r (opO .sub a c) ∧ Fl i (opO .sub b d) ∧ w' = (((w.alloc (.cells #[.float .f64 x, .float .f64 y] 28)).alloc (.cells #[.float .f64 z, .float .f64 u] 28)).alloc (.cells #[.float .f64 r, .float .f64 i] 28)).drewN n := by
  have st := store_fp
  go_enter Try.func23, Try.ntmps23
  go_wp2_with (first
    | (refine list_fop .sub rfl 22 22 (.tmp 6) (.tmp 8) (by rfl) (by rfl) (by rfl) (by rfl) hx hz ?_; intro r nr hr)
    | (refine list_fop .sub rfl 22 22 (.tmp 11) (.tmp 13) (by rfl) (by rfl) (by rfl) (by rfl) hy hu ?_; intro i ni hi))
  exact bodyPost_ret (v := .agg #[.float .f64 r, .float .f64 i]) (by simp [results, Try.results23, go_sem]) rfl ⟨r, i, _, rfl, hr, hi, set_new2 _ _ _ _ _ _ _ _ (by simp)⟩
theorem specSubPair_any {x y z u : Nat} {a b c d : Option Nat} (hx : Fl x a) (hy : Fl y b) (hz : Fl z c) (hu : Fl u d) (w : World) : Calls Try.prog 23 #[.agg #[.float .f64 x, .float .f64 y], .agg #[.float .f64 z, .float .f64 u]] w fun e w' => ∃ r i, e = .returned (.agg #[.float .f64 r, .float .f64 i]) ∧ Fl r (opO .sub a c) ∧ Fl i (opO .sub b d) ∧ Below w.heap.size w w' := by
  refine (specSubPair_ex hx hy hz hu w).mono ?_
  rintro e w' ⟨r, i, n, rfl, hr, hi, rfl⟩
  exact ⟨r, i, rfl, hr, hi, (by repeat (first | with_reducible exact Below.refl _ _ | with_reducible refine Below.setCell ?_ (by first | omega | (simp; done) | (simp; omega)) _ | with_reducible refine bDrewN ?_ _ | with_reducible refine Below.drew ?_ | with_reducible refine Below.alloc ?_ (by first | omega | (simp; done) | (simp; omega)) _))⟩

set_option maxHeartbeats 1000000 in
theorem subInside_any {x y z u : Nat} {a b c d : Option Nat} (hx : Fl x a) (hy : Fl y b) (hz : Fl z c) (hu : Fl u d) (w : World) : Calls Try.prog 51 #[.complex .f64 x y, .complex .f64 z u] w fun e w' => ∃ r i n, e = .returned (.complex .f64 r i) ∧ Fl r (opO .sub a c) ∧ Fl i (opO .sub b d) ∧ w' = w.drewN n := by
  go_enter Try.func51, Try.ntmps51
  go_wp2_with (first
    | (refine list_fop .sub rfl 22 22 (.tmp 6) (.tmp 8) (by rfl) (by rfl) (by rfl) (by rfl) hx hz ?_; intro r nr hr)
    | (refine list_fop .sub rfl 22 22 (.tmp 11) (.tmp 13) (by rfl) (by rfl) (by rfl) (by rfl) hy hu ?_; intro i ni hi))
  go_ret
  exact ⟨r, i, nr + ni, rfl, hr, hi, by simp [Nat.add_assoc]⟩

set_option maxHeartbeats 1000000 in
theorem specMulPair_ex {x y z u : Nat} {a b c d : Option Nat} (hx : Fl x a) (hy : Fl y b) (hz : Fl z c) (hu : Fl u d) (w : World) : Calls Try.prog 40 #[.agg #[.float .f64 x, .float .f64 y], .agg #[.float .f64 z, .float .f64 u]] w fun e w' => ∃ r i n, e = .returned (.agg #[.float .f64 r, .float .f64 i]) ∧ Fl r (mulRe a b c d) ∧ Fl i (mulIm a b c d) ∧ w' = (((w.alloc (.cells #[.float .f64 x, .float .f64 y] 28)).alloc (.cells #[.float .f64 z, .float .f64 u] 28)).alloc (.cells #[.float .f64 r, .float .f64 i] 28)).drewN n := by
  have st := store_fp
  go_enter Try.func40, Try.ntmps40
  go_wp2_with (first
    | (refine list_fop .mul rfl 22 22 (.tmp 6) (.tmp 8) (by rfl) (by rfl) (by rfl) (by rfl) hx hz ?_; intro p np hp)
    | (refine list_fop .mul rfl 22 22 (.tmp 11) (.tmp 13) (by rfl) (by rfl) (by rfl) (by rfl) hy hu ?_; intro q nq hq)
    | (refine list_fop .sub rfl 22 22 (.tmp 9) (.tmp 14) (by rfl) (by rfl) (by rfl) (by rfl) hp hq ?_; intro r nr hr)
    | (refine list_fop .mul rfl 22 22 (.tmp 17) (.tmp 19) (by rfl) (by rfl) (by rfl) (by rfl) hx hu ?_; intro s ns hs)
    | (refine list_fop .mul rfl 22 22 (.tmp 22) (.tmp 24) (by rfl) (by rfl) (by rfl) (by rfl) hy hz ?_; intro t nt ht)
    | (refine list_fop .add rfl 22 22 (.tmp 20) (.tmp 25) (by rfl) (by rfl) (by rfl) (by rfl) hs ht ?_; intro i ni hi))
  exact bodyPost_ret (v := .agg #[.float .f64 r, .float .f64 i]) (by simp [results, Try.results40, go_sem]) rfl ⟨r, i, _, rfl, hr, hi, set_new2 _ _ _ _ _ _ _ _ (by simp)⟩
theorem specMulPair_any {x y z u : Nat} {a b c d : Option Nat} (hx : Fl x a) (hy : Fl y b) (hz : Fl z c) (hu : Fl u d) (w : World) : Calls Try.prog 40 #[.agg #[.float .f64 x, .float .f64 y], .agg #[.float .f64 z, .float .f64 u]] w fun e w' => ∃ r i, e = .returned (.agg #[.float .f64 r, .float .f64 i]) ∧ Fl r (mulRe a b c d) ∧ Fl i (mulIm a b c d) ∧ Below w.heap.size w w' := by
  refine (specMulPair_ex hx hy hz hu w).mono ?_
  rintro e w' ⟨r, i, n, rfl, hr, hi, rfl⟩
  exact ⟨r, i, rfl, hr, hi, (by repeat (first | with_reducible exact Below.refl _ _ | with_reducible refine Below.setCell ?_ (by first | omega | (simp; done) | (simp; omega)) _ | with_reducible refine bDrewN ?_ _ | with_reducible refine Below.drew ?_ | with_reducible refine Below.alloc ?_ (by first | omega | (simp; done) | (simp; omega)) _))⟩

set_option maxHeartbeats 1000000 in
theorem mulInside_any {x y z u : Nat} {a b c d : Option Nat} (hx : Fl x a) (hy : Fl y b) (hz : Fl z c) (hu : Fl u d) (w : World) : Calls Try.prog 61 #[.complex .f64 x y, .complex .f64 z u] w fun e w' => ∃ r i n, e = .returned (.complex .f64 r i) ∧ Fl r (mulRe a b c d) ∧ Fl i (mulIm a b c d) ∧ w' = w.drewN n := by
  go_enter Try.func61, Try.ntmps61
  go_wp2_with (first
    | (refine list_fop .mul rfl 22 22 (.tmp 6) (.tmp 8) (by rfl) (by rfl) (by rfl) (by rfl) hx hz ?_; intro p np hp)
    | (refine list_fop .mul rfl 22 22 (.tmp 11) (.tmp 13) (by rfl) (by rfl) (by rfl) (by rfl) hy hu ?_; intro q nq hq)
    | (refine list_fop .sub rfl 22 22 (.tmp 9) (.tmp 14) (by rfl) (by rfl) (by rfl) (by rfl) hp hq ?_; intro r nr hr)
    | (refine list_fop .mul rfl 22 22 (.tmp 17) (.tmp 19) (by rfl) (by rfl) (by rfl) (by rfl) hx hu ?_; intro s ns hs)
    | (refine list_fop .mul rfl 22 22 (.tmp 22) (.tmp 24) (by rfl) (by rfl) (by rfl) (by rfl) hy hz ?_; intro t nt ht)
    | (refine list_fop .add rfl 22 22 (.tmp 20) (.tmp 25) (by rfl) (by rfl) (by rfl) (by rfl) hs ht ?_; intro i ni hi))
  go_ret
  exact ⟨r, i, np + nq + nr + ns + nt + ni, rfl, hr, hi, by simp [Nat.add_assoc]⟩

set_option maxHeartbeats 1000000 in
theorem specConjPair_ex {x y : Nat} {a b : Option Nat} (hx : Fl x a) (hy : Fl y b) (w : World) : Calls Try.prog 41 #[.agg #[.float .f64 x, .float .f64 y]] w fun e w' => ∃ r i n, e = .returned (.agg #[.float .f64 r, .float .f64 i]) ∧ Fl r (a) ∧ Fl i (conjIm b) ∧ w' = ((w.alloc (.cells #[.float .f64 x, .float .f64 y] 28)).alloc (.cells #[.float .f64 r, .float .f64 i] 28)).drewN n := by
  have st := store_fp
  go_enter Try.func41, Try.ntmps41
  go_wp2_with (first
    | (refine list_fop .sub rfl 22 22 (.const (.float .f64 0)) (.tmp 6) (by rfl) (by rfl) (by rfl) (by rfl) fl_zero hy ?_; intro i ni hi))
  exact bodyPost_ret (v := .agg #[.float .f64 x, .float .f64 i]) (by simp [results, Try.results41, go_sem]) rfl ⟨x, i, _, rfl, hx, hi, set_new2 _ _ _ _ _ _ _ _ (by simp)⟩
theorem specConjPair_any {x y : Nat} {a b : Option Nat} (hx : Fl x a) (hy : Fl y b) (w : World) : Calls Try.prog 41 #[.agg #[.float .f64 x, .float .f64 y]] w fun e w' => ∃ r i, e = .returned (.agg #[.float .f64 r, .float .f64 i]) ∧ Fl r (a) ∧ Fl i (conjIm b) ∧ Below w.heap.size w w' := by
  refine (specConjPair_ex hx hy w).mono ?_
  rintro e w' ⟨r, i, n, rfl, hr, hi, rfl⟩
  exact ⟨r, i, rfl, hr, hi, (by repeat (first | with_reducible exact Below.refl _ _ | with_reducible refine Below.setCell ?_ (by first | omega | (simp; done) | (simp; omega)) _ | with_reducible refine bDrewN ?_ _ | with_reducible refine Below.drew ?_ | with_reducible refine Below.alloc ?_ (by first | omega | (simp; done) | (simp; omega)) _))⟩

set_option maxHeartbeats 1000000 in
theorem conjInside_any {x y : Nat} {a b : Option Nat} (hx : Fl x a) (hy : Fl y b) (w : World) : Calls Try.prog 62 #[.complex .f64 x y] w fun e w' => ∃ i n, e = .returned (.complex .f64 x i) ∧ Fl i (conjIm b) ∧ w' = w.drewN n := by
  go_enter Try.func62, Try.ntmps62
  go_wp2_with (first
    | (refine list_fop .sub rfl 22 22 (.const (.float .f64 0)) (.tmp 6) (by rfl) (by rfl) (by rfl) (by rfl) fl_zero hy ?_; intro i ni hi))
  go_ret
  exact ⟨i, ni, rfl, hi, by simp [Nat.add_assoc]⟩

set_option maxHeartbeats 1000000 in
theorem specNorm_any {x y : Nat} {a b : Option Nat} (hx : Fl x a) (hy : Fl y b) (w : World) : Calls Try.prog 22 #[.agg #[.float .f64 x, .float .f64 y]] w fun e w' => ∃ r, e = .returned (.float .f64 r) ∧ Fl r (normO a b) ∧ Below w.heap.size w w' := by
  go_enter Try.func22, Try.ntmps22
  go_wp2_with (first
    | (refine list_fop .mul rfl 22 22 (.tmp 4) (.tmp 6) (by rfl) (by rfl) (by rfl) (by rfl) hx hx ?_; intro p np hp)
    | (refine list_fop .mul rfl 22 22 (.tmp 9) (.tmp 11) (by rfl) (by rfl) (by rfl) (by rfl) hy hy ?_; intro q nq hq)
    | (refine list_fop .add rfl 22 22 (.tmp 7) (.tmp 12) (by rfl) (by rfl) (by rfl) (by rfl) hp hq ?_; intro r nr hr))
  go_ret
  exact ⟨r, rfl, hr, (by repeat (first | with_reducible exact Below.refl _ _ | with_reducible refine Below.setCell ?_ (by first | omega | (simp; done) | (simp; omega)) _ | with_reducible refine bDrewN ?_ _ | with_reducible refine Below.drew ?_ | with_reducible refine Below.alloc ?_ (by first | omega | (simp; done) | (simp; omega)) _))⟩

set_option maxHeartbeats 1000000 in
theorem normInside_any {x y : Nat} {a b : Option Nat} (hx : Fl x a) (hy : Fl y b) (w : World) : Calls Try.prog 49 #[.complex .f64 x y] w fun e w' => ∃ r n, e = .returned (.float .f64 r) ∧ Fl r (normO a b) ∧ w' = w.drewN n := by
  go_enter Try.func49, Try.ntmps49
  go_wp2_with (first
    | (refine list_fop .mul rfl 22 22 (.tmp 4) (.tmp 6) (by rfl) (by rfl) (by rfl) (by rfl) hx hx ?_; intro p np hp)
    | (refine list_fop .mul rfl 22 22 (.tmp 9) (.tmp 11) (by rfl) (by rfl) (by rfl) (by rfl) hy hy ?_; intro q nq hq)
    | (refine list_fop .add rfl 22 22 (.tmp 7) (.tmp 12) (by rfl) (by rfl) (by rfl) (by rfl) hp hq ?_; intro r nr hr))
  go_ret
  exact ⟨r, np + nq + nr, rfl, hr, by simp [Nat.add_assoc]⟩

set_option maxHeartbeats 1000000 in
theorem eqPair_any {x y z u : Nat} {a b : Option Nat} (hx : Fl x a) (hy : Fl y b) (hz : Fl z a) (hu : Fl u b) (w : World) : Calls Try.prog 47 #[.agg #[.float .f64 x, .float .f64 y], .agg #[.float .f64 z, .float .f64 u]] w fun e w' => e = .returned (.bool true) ∧ Below w.heap.size w w' := by
  have S1 : Hid (∀ w, Calls Try.prog 48 #[.float .f64 x, .float .f64 z] w fun e w' => e = .returned (.bool true) ∧ w' = w) := fun w => sameFloat_any hx hz w
  have S2 : Hid (∀ w, Calls Try.prog 48 #[.float .f64 y, .float .f64 u] w fun e w' => e = .returned (.bool true) ∧ w' = w) := fun w => sameFloat_any hy hu w
  go_enter Try.func47, Try.ntmps47
  go_wp2_with fail
  refine (S1.out _).mono ?_
  rintro e w1 ⟨rfl, rfl⟩
  go_wp2_with fail
  refine (S2.out _).mono ?_
  rintro e w1 ⟨rfl, rfl⟩
  go_wp2
  go_ret
  exact ⟨rfl, (by repeat (first | with_reducible exact Below.refl _ _ | with_reducible refine Below.setCell ?_ (by first | omega | (simp; done) | (simp; omega)) _ | with_reducible refine bDrewN ?_ _ | with_reducible refine Below.drew ?_ | with_reducible refine Below.alloc ?_ (by first | omega | (simp; done) | (simp; omega)) _))⟩
end Go.Proofs.Ytedkhhocbnldjaa
