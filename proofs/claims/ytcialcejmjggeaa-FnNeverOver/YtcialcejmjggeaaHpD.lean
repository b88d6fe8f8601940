/-
What is proved: container/heap's down and up over a queue of machines.
-/
import Derived.Test.YtcialcejmjggeaaHpL
import Derived.Test.YtcialcejmjggeaaHpW
import Derived.Test.YtcialcejmjggeaaHpP
import Derived.Deep.RegionHeldLaw
import Derived.Deep.DeepCutAuto

namespace Go.Proofs.Ytcialcejmjggeaa
set_option maxRecDepth 40000
open Go.ChangeShapes Go.WideShapes Go.ChangeAt Go.RowKit
set_option linter.unusedVariables false
set_option linter.unusedSimpArgs false

def HoldR (m : Nat) (P P' : Nat → Nat) : Prop := (∀ S l, m ≤ l → Hold l P S → Hold l P' S) ∧ ∀ k, m ≤ k → P' k = P k
theorem HoldR.refl (m : Nat) (P : Nat → Nat) : HoldR m P P := ⟨fun _ _ _ h => h, fun _ _ => rfl⟩
theorem HoldR.swap {m : Nat} {P P' : Nat → Nat} (h : HoldR m P P') {i j : Nat} (hi : i < m) (hj : j < m) : HoldR m P (swp P' i j) :=
  ⟨fun S l hl hh => hold_swp (h.1 S l hl hh) (by omega) (by omega), fun k hk => by rw [swp_o P' (by omega) (by omega)]; exact h.2 k hk⟩
theorem HoldR.lt {m n : Nat} {P P' : Nat → Nat} {S : Nat → Prop} (h : HoldR m P P') (hmn : m ≤ n) (hh : Hold n P S) (hs : ∀ a, S a → a < 60) : ∀ i, i < n → P' i < 60 := fun i hi => hs _ ((h.1 S n hmn hh).1 i hi)
def DownR (sh : Bool) (X : Nat → Prop) (q n m i0 : Nat) (V : Nat → Int) (P : Nat → Nat) (w w' : World) : Prop := ∃ P', QAt X q w' sh n V P' ∧ Turn X w w' ∧ HeapG (kO sh V) i0 m P' ∧ HoldR m P P'
set_option maxRecDepth 20000 in
set_option maxHeartbeats 4000000 in
theorem down_any (sh : Bool) (X : Nat → Prop) (q n m i0 : Nat) (V : Nat → Int) (P : Nat → Nat) (S : Nat → Prop) (w : World) (hn : n < 1000) (hm : m ≤ n) (hi0 : i0 < 1000) (HH : Hid (Hold n P S)) (HS : Hid (∀ a, S a → a < 60)) (HD0 : Hid (DownAt (kO sh V) i0 m i0 P)) (HQ : Hid (QAt X q w sh n V P)) :
    Calls Try.prog 59 #[qI q, .int .i64 (i0 : Int), .int .i64 (m : Int)] w fun e w' => ∃ b, e = .returned (.bool b) ∧ DownR sh X q n m i0 V P w w' := by
  unfold qI
  have hI0 : (i0 : Int) < 1000 := by omega
  have hM : (m : Int) < 1000 := by omega
  go_enter Try.func59, Try.ntmps59
  go_wp2_with fail
  go_loopw [7] (fun iv wr => ∃ (i : Nat) (P1 : Nat → Nat), iv = .int .i64 (i : Int) ∧ (i = i0 ∨ i < m) ∧ Hid (QAt X q wr sh n V P1) ∧ Hid (Turn X w wr) ∧ Hid (DownAt (kO sh V) i0 m i P1) ∧ Hid (HoldR m P P1)) (fun iv _ => 1000 - (intOf iv).toNat)
  case atStart => exact ⟨i0, P, rfl, .inl rfl, HQ, Turn.refl _ _, HD0, HoldR.refl _ _⟩
  case round =>
    clear HQ HD0
    obtain ⟨i, P1, rfl, hi, HQwr, HTwr, HDn, HR⟩ := hrel
    have hi2 : i < 1000 := by omega
    clear hi
    have hI : (i : Int) < 1000 := by omega
    have HP6 : Hid (∀ k, k < n → P1 k < 60) := HR.out.lt hm HH.out HS.out
    obtain ⟨j1, hj1⟩ : ∃ z : Nat, z = 2 * i + 1 := ⟨_, rfl⟩
    have e1 : 2 * (i : Int) + 1 = (j1 : Int) := by omega
    have p1 : 0 ≤ (j1 : Int) := by omega
    by_cases h1 : j1 < m
    case neg =>
      have k1 : (m : Int) ≤ (j1 : Int) := by omega
      have HHE : Hid (HeapG (kO sh V) i0 m P1) := down_stop1 HDn.out (by omega)
      have HJ : Hid (j1 = 2 * i + 1) := hj1
      clear hj1
      go_wp2
      go_ret
      exact ⟨_, rfl, P1, HQwr.out, HTwr.out, HHE.out, HR.out⟩
    have k1 : (j1 : Int) < (m : Int) := by omega
    have ji : i < m := by omega
    have jn : j1 < n := by omega
    by_cases h2 : j1 + 1 < m
    case neg =>
      have k2 : (m : Int) ≤ (j1 : Int) + 1 := by omega
      have HMM : ∀ k, 0 < k → k < m → (k - 1) / 2 = i → kO sh V (P1 j1) ≤ kO sh V (P1 k) := fun k k0 k1 k2 => by
        have : k = j1 := by omega
        rw [this]; exact Int.le_refl _
      by_cases hs : kO sh V (P1 j1) < kO sh V (P1 i)
      · have HND : Hid (DownAt (kO sh V) i0 m j1 (swp P1 i j1)) := down_step HDn.out (by omega) h1 (by omega) HMM hs
        have L2 := less_any sh X q n j1 i V P1
        rw [decide_eq_true hs] at L2
        have HL2 : Hid (∀ w, j1 < n → i < n → P1 j1 < 60 → P1 i < 60 → Hid (QAt X q w sh n V P1) → Calls Try.prog 80 #[.pointer (some ⟨q, 0, none⟩), .int .i64 (j1 : Int), .int .i64 (i : Int)] w fun e w' => e = .returned (.bool true) ∧ Below w.heap.size w w') := L2
        clear L2 HMM hs HDn
        have HJ : Hid (j1 = 2 * i + 1) := hj1
        have ij : i < j1 := by omega
        clear hj1
        go_wp2_with fail
        refine upon_run (a := (80, Value.pointer (some ⟨q, 0, none⟩))) (w' := wr) (by kernel_rfl) ?_
        go_wp2_with fail
        refine (HL2.out _ (by omega) (by omega) (HP6.out _ (by omega)) (HP6.out _ (by omega)) HQwr).mono ?_
        rintro e w2 ⟨rfl, B2⟩
        have HQ2 : Hid (QAt X q w2 sh n V P1) := HQwr.out.below B2
        have HT2 : Hid (Turn X w w2) := HTwr.out.trans (Turn.grown B2)
        clear B2 HQwr HTwr
        go_wp2_with fail
        refine upon_run (a := (83, Value.pointer (some ⟨q, 0, none⟩))) (w' := w2) (by kernel_rfl) ?_
        go_wp2_with fail
        refine (qswap_any sh X q n i j1 V P1 _ (by omega) (by omega) HQ2).mono ?_
        rintro e w3 ⟨rfl, hQ3, hT3⟩
        have HQ3 : Hid (QAt X q w3 sh n V (swp P1 i j1)) := hQ3
        have HT3 : Hid (Turn X w w3) := HT2.out.trans hT3
        clear hQ3 hT3 HQ2 HT2
        go_wp2
        go_roundw
        case rel => exact ⟨j1, swp P1 i j1, rfl, by omega, HQ3, HT3, HND.out, HR.out.swap (by omega) (by omega)⟩
        case measure => simp [intOf]; omega
      · have HHE : Hid (HeapG (kO sh V) i0 m P1) := down_stop2 HDn.out HMM hs
        have L2 := less_any sh X q n j1 i V P1
        rw [decide_eq_false hs] at L2
        have HL2 : Hid (∀ w, j1 < n → i < n → P1 j1 < 60 → P1 i < 60 → Hid (QAt X q w sh n V P1) → Calls Try.prog 80 #[.pointer (some ⟨q, 0, none⟩), .int .i64 (j1 : Int), .int .i64 (i : Int)] w fun e w' => e = .returned (.bool false) ∧ Below w.heap.size w w') := L2
        clear L2 HMM hs HDn
        have HJ : Hid (j1 = 2 * i + 1) := hj1
        clear hj1
        go_wp2_with fail
        refine upon_run (a := (80, Value.pointer (some ⟨q, 0, none⟩))) (w' := wr) (by kernel_rfl) ?_
        go_wp2_with fail
        refine (HL2.out _ (by omega) (by omega) (HP6.out _ (by omega)) (HP6.out _ (by omega)) HQwr).mono ?_
        rintro e w2 ⟨rfl, B2⟩
        have HQ2 : Hid (QAt X q w2 sh n V P1) := HQwr.out.below B2
        have HT2 : Hid (Turn X w w2) := HTwr.out.trans (Turn.grown B2)
        clear B2 HQwr HTwr
        go_wp2
        go_ret
        exact ⟨_, rfl, P1, HQ2.out, HT2.out, HHE.out, HR.out⟩
    obtain ⟨j2, hj2⟩ : ∃ z : Nat, z = j1 + 1 := ⟨_, rfl⟩
    have e2 : (j1 : Int) + 1 = (j2 : Int) := by omega
    have k2 : (j2 : Int) < (m : Int) := by omega
    have j2n : j2 < n := by omega
    have j2m : j2 < m := by omega
    clear h2
    by_cases hc : kO sh V (P1 j2) < kO sh V (P1 j1)
    · have L1 := less_any sh X q n j2 j1 V P1
      rw [decide_eq_true hc] at L1
      have HL1 : Hid (∀ w, j2 < n → j1 < n → P1 j2 < 60 → P1 j1 < 60 → Hid (QAt X q w sh n V P1) → Calls Try.prog 80 #[.pointer (some ⟨q, 0, none⟩), .int .i64 (j2 : Int), .int .i64 (j1 : Int)] w fun e w' => e = .returned (.bool true) ∧ Below w.heap.size w w') := L1
      clear L1
      have HMM : ∀ k, 0 < k → k < m → (k - 1) / 2 = i → kO sh V (P1 j2) ≤ kO sh V (P1 k) := fun k k0 k1 k2 => by
        rcases (by omega : k = j1 ∨ k = j2) with e | e <;> rw [e] <;> omega
      clear hc
      by_cases hs : kO sh V (P1 j2) < kO sh V (P1 i)
      · have HND : Hid (DownAt (kO sh V) i0 m j2 (swp P1 i j2)) := down_step HDn.out (by omega) (by omega) (by omega) HMM hs
        have L2 := less_any sh X q n j2 i V P1
        rw [decide_eq_true hs] at L2
        have HL2 : Hid (∀ w, j2 < n → i < n → P1 j2 < 60 → P1 i < 60 → Hid (QAt X q w sh n V P1) → Calls Try.prog 80 #[.pointer (some ⟨q, 0, none⟩), .int .i64 (j2 : Int), .int .i64 (i : Int)] w fun e w' => e = .returned (.bool true) ∧ Below w.heap.size w w') := L2
        clear L2 HMM hs HDn
        have HJ : Hid (j1 = 2 * i + 1) := hj1
        have HJ2 : Hid (j2 = j1 + 1) := hj2
        have ij : i < j2 := by omega
        clear hj1 hj2
        go_wp2_with fail
        refine upon_run (a := (80, Value.pointer (some ⟨q, 0, none⟩))) (w' := wr) (by kernel_rfl) ?_
        go_wp2_with fail
        refine (HL1.out _ (by omega) (by omega) (HP6.out _ (by omega)) (HP6.out _ (by omega)) HQwr).mono ?_
        rintro e w1 ⟨rfl, B1⟩
        have HQw1 : Hid (QAt X q w1 sh n V P1) := HQwr.out.below B1
        have HTw1 : Hid (Turn X w w1) := HTwr.out.trans (Turn.grown B1)
        clear B1 HQwr HTwr
        go_wp2_with fail
        refine upon_run (a := (80, Value.pointer (some ⟨q, 0, none⟩))) (w' := w1) (by kernel_rfl) ?_
        go_wp2_with fail
        refine (HL2.out _ (by omega) (by omega) (HP6.out _ (by omega)) (HP6.out _ (by omega)) HQw1).mono ?_
        rintro e w2 ⟨rfl, B2⟩
        have HQ2 : Hid (QAt X q w2 sh n V P1) := HQw1.out.below B2
        have HT2 : Hid (Turn X w w2) := HTw1.out.trans (Turn.grown B2)
        clear B2 HQw1 HTw1
        go_wp2_with fail
        refine upon_run (a := (83, Value.pointer (some ⟨q, 0, none⟩))) (w' := w2) (by kernel_rfl) ?_
        go_wp2_with fail
        refine (qswap_any sh X q n i j2 V P1 _ (by omega) (by omega) HQ2).mono ?_
        rintro e w3 ⟨rfl, hQ3, hT3⟩
        have HQ3 : Hid (QAt X q w3 sh n V (swp P1 i j2)) := hQ3
        have HT3 : Hid (Turn X w w3) := HT2.out.trans hT3
        clear hQ3 hT3 HQ2 HT2
        go_wp2
        go_roundw
        case rel => exact ⟨j2, swp P1 i j2, rfl, by omega, HQ3, HT3, HND.out, HR.out.swap (by omega) (by omega)⟩
        case measure => simp [intOf]; omega
      · have HHE : Hid (HeapG (kO sh V) i0 m P1) := down_stop2 HDn.out HMM hs
        have L2 := less_any sh X q n j2 i V P1
        rw [decide_eq_false hs] at L2
        have HL2 : Hid (∀ w, j2 < n → i < n → P1 j2 < 60 → P1 i < 60 → Hid (QAt X q w sh n V P1) → Calls Try.prog 80 #[.pointer (some ⟨q, 0, none⟩), .int .i64 (j2 : Int), .int .i64 (i : Int)] w fun e w' => e = .returned (.bool false) ∧ Below w.heap.size w w') := L2
        clear L2 HMM hs HDn
        have HJ : Hid (j1 = 2 * i + 1) := hj1
        have HJ2 : Hid (j2 = j1 + 1) := hj2
        have ij : i < j2 := by omega
        clear hj1 hj2
        go_wp2_with fail
        refine upon_run (a := (80, Value.pointer (some ⟨q, 0, none⟩))) (w' := wr) (by kernel_rfl) ?_
        go_wp2_with fail
        refine (HL1.out _ (by omega) (by omega) (HP6.out _ (by omega)) (HP6.out _ (by omega)) HQwr).mono ?_
        rintro e w1 ⟨rfl, B1⟩
        have HQw1 : Hid (QAt X q w1 sh n V P1) := HQwr.out.below B1
        have HTw1 : Hid (Turn X w w1) := HTwr.out.trans (Turn.grown B1)
        clear B1 HQwr HTwr
        go_wp2_with fail
        refine upon_run (a := (80, Value.pointer (some ⟨q, 0, none⟩))) (w' := w1) (by kernel_rfl) ?_
        go_wp2_with fail
        refine (HL2.out _ (by omega) (by omega) (HP6.out _ (by omega)) (HP6.out _ (by omega)) HQw1).mono ?_
        rintro e w2 ⟨rfl, B2⟩
        have HQ2 : Hid (QAt X q w2 sh n V P1) := HQw1.out.below B2
        have HT2 : Hid (Turn X w w2) := HTw1.out.trans (Turn.grown B2)
        clear B2 HQw1 HTw1
        go_wp2
        go_ret
        exact ⟨_, rfl, P1, HQ2.out, HT2.out, HHE.out, HR.out⟩
    · have L1 := less_any sh X q n j2 j1 V P1
      rw [decide_eq_false hc] at L1
      have HL1 : Hid (∀ w, j2 < n → j1 < n → P1 j2 < 60 → P1 j1 < 60 → Hid (QAt X q w sh n V P1) → Calls Try.prog 80 #[.pointer (some ⟨q, 0, none⟩), .int .i64 (j2 : Int), .int .i64 (j1 : Int)] w fun e w' => e = .returned (.bool false) ∧ Below w.heap.size w w') := L1
      clear L1
      have HMM : ∀ k, 0 < k → k < m → (k - 1) / 2 = i → kO sh V (P1 j1) ≤ kO sh V (P1 k) := fun k k0 k1 k2 => by
        rcases (by omega : k = j1 ∨ k = j2) with e | e <;> rw [e] <;> omega
      clear hc
      by_cases hs : kO sh V (P1 j1) < kO sh V (P1 i)
      · have HND : Hid (DownAt (kO sh V) i0 m j1 (swp P1 i j1)) := down_step HDn.out (by omega) (by omega) (by omega) HMM hs
        have L2 := less_any sh X q n j1 i V P1
        rw [decide_eq_true hs] at L2
        have HL2 : Hid (∀ w, j1 < n → i < n → P1 j1 < 60 → P1 i < 60 → Hid (QAt X q w sh n V P1) → Calls Try.prog 80 #[.pointer (some ⟨q, 0, none⟩), .int .i64 (j1 : Int), .int .i64 (i : Int)] w fun e w' => e = .returned (.bool true) ∧ Below w.heap.size w w') := L2
        clear L2 HMM hs HDn
        have HJ : Hid (j1 = 2 * i + 1) := hj1
        have HJ2 : Hid (j2 = j1 + 1) := hj2
        have ij : i < j1 := by omega
        clear hj1 hj2
        go_wp2_with fail
        refine upon_run (a := (80, Value.pointer (some ⟨q, 0, none⟩))) (w' := wr) (by kernel_rfl) ?_
        go_wp2_with fail
        refine (HL1.out _ (by omega) (by omega) (HP6.out _ (by omega)) (HP6.out _ (by omega)) HQwr).mono ?_
        rintro e w1 ⟨rfl, B1⟩
        have HQw1 : Hid (QAt X q w1 sh n V P1) := HQwr.out.below B1
        have HTw1 : Hid (Turn X w w1) := HTwr.out.trans (Turn.grown B1)
        clear B1 HQwr HTwr
        go_wp2_with fail
        refine upon_run (a := (80, Value.pointer (some ⟨q, 0, none⟩))) (w' := w1) (by kernel_rfl) ?_
        go_wp2_with fail
        refine (HL2.out _ (by omega) (by omega) (HP6.out _ (by omega)) (HP6.out _ (by omega)) HQw1).mono ?_
        rintro e w2 ⟨rfl, B2⟩
        have HQ2 : Hid (QAt X q w2 sh n V P1) := HQw1.out.below B2
        have HT2 : Hid (Turn X w w2) := HTw1.out.trans (Turn.grown B2)
        clear B2 HQw1 HTw1
        go_wp2_with fail
        refine upon_run (a := (83, Value.pointer (some ⟨q, 0, none⟩))) (w' := w2) (by kernel_rfl) ?_
        go_wp2_with fail
        refine (qswap_any sh X q n i j1 V P1 _ (by omega) (by omega) HQ2).mono ?_
        rintro e w3 ⟨rfl, hQ3, hT3⟩
        have HQ3 : Hid (QAt X q w3 sh n V (swp P1 i j1)) := hQ3
        have HT3 : Hid (Turn X w w3) := HT2.out.trans hT3
        clear hQ3 hT3 HQ2 HT2
        go_wp2
        go_roundw
        case rel => exact ⟨j1, swp P1 i j1, rfl, by omega, HQ3, HT3, HND.out, HR.out.swap (by omega) (by omega)⟩
        case measure => simp [intOf]; omega
      · have HHE : Hid (HeapG (kO sh V) i0 m P1) := down_stop2 HDn.out HMM hs
        have L2 := less_any sh X q n j1 i V P1
        rw [decide_eq_false hs] at L2
        have HL2 : Hid (∀ w, j1 < n → i < n → P1 j1 < 60 → P1 i < 60 → Hid (QAt X q w sh n V P1) → Calls Try.prog 80 #[.pointer (some ⟨q, 0, none⟩), .int .i64 (j1 : Int), .int .i64 (i : Int)] w fun e w' => e = .returned (.bool false) ∧ Below w.heap.size w w') := L2
        clear L2 HMM hs HDn
        have HJ : Hid (j1 = 2 * i + 1) := hj1
        have HJ2 : Hid (j2 = j1 + 1) := hj2
        have ij : i < j1 := by omega
        clear hj1 hj2
        go_wp2_with fail
        refine upon_run (a := (80, Value.pointer (some ⟨q, 0, none⟩))) (w' := wr) (by kernel_rfl) ?_
        go_wp2_with fail
        refine (HL1.out _ (by omega) (by omega) (HP6.out _ (by omega)) (HP6.out _ (by omega)) HQwr).mono ?_
        rintro e w1 ⟨rfl, B1⟩
        have HQw1 : Hid (QAt X q w1 sh n V P1) := HQwr.out.below B1
        have HTw1 : Hid (Turn X w w1) := HTwr.out.trans (Turn.grown B1)
        clear B1 HQwr HTwr
        go_wp2_with fail
        refine upon_run (a := (80, Value.pointer (some ⟨q, 0, none⟩))) (w' := w1) (by kernel_rfl) ?_
        go_wp2_with fail
        refine (HL2.out _ (by omega) (by omega) (HP6.out _ (by omega)) (HP6.out _ (by omega)) HQw1).mono ?_
        rintro e w2 ⟨rfl, B2⟩
        have HQ2 : Hid (QAt X q w2 sh n V P1) := HQw1.out.below B2
        have HT2 : Hid (Turn X w w2) := HTw1.out.trans (Turn.grown B2)
        clear B2 HQw1 HTw1
        go_wp2
        go_ret
        exact ⟨_, rfl, P1, HQ2.out, HT2.out, HHE.out, HR.out⟩
set_option maxRecDepth 20000 in
set_option maxHeartbeats 4000000 in
theorem up_any (sh : Bool) (X : Nat → Prop) (q n j0 : Nat) (V : Nat → Int) (P : Nat → Nat) (S : Nat → Prop) (w : World) (hn : n < 1000) (hj0 : j0 < n) (HH : Hid (Hold n P S)) (HS : Hid (∀ a, S a → a < 60)) (HD0 : Hid (UpAt (kO sh V) n j0 P)) (HQ : Hid (QAt X q w sh n V P)) :
    Calls Try.prog 60 #[qI q, .int .i64 (j0 : Int)] w fun e w' => e = .returned (.tuple #[]) ∧ DownR sh X q n n 0 V P w w' := by
  unfold qI
  have hI0 : (j0 : Int) < 1000 := by omega
  go_enter Try.func60, Try.ntmps60
  go_wp2_with fail
  go_loopw [1] (fun iv wr => ∃ (j : Nat) (P1 : Nat → Nat), iv = .int .i64 (j : Int) ∧ j < n ∧ Hid (QAt X q wr sh n V P1) ∧ Hid (Turn X w wr) ∧ Hid (UpAt (kO sh V) n j P1) ∧ Hid (HoldR n P P1)) (fun iv _ => (intOf iv).toNat)
  case atStart => exact ⟨j0, P, rfl, hj0, HQ, Turn.refl _ _, HD0, HoldR.refl _ _⟩
  case round =>
    clear HQ HD0
    obtain ⟨j, P1, rfl, hj, HQwr, HTwr, HDn, HR⟩ := hrel
    have hJ : (j : Int) < 1000 := by omega
    have HP6 : Hid (∀ k, k < n → P1 k < 60) := HR.out.lt (Nat.le_refl _) HH.out HS.out
    obtain ⟨i, hi⟩ : ∃ z : Nat, z = (j - 1) / 2 := ⟨_, rfl⟩
    have e1 : Int.tdiv ((j : Int) - 1) 2 = (i : Int) := by
      rcases Nat.eq_zero_or_pos j with q | q
      · have q2 : i = 0 := by omega
        rw [q, q2]; rfl
      · rw [Int.tdiv_eq_ediv_of_nonneg (by omega)]; omega
    have hin : i < n := by omega
    by_cases h1 : i = j
    · have j0 : j = 0 := by omega
      have HHE : Hid (HeapG (kO sh V) 0 n P1) := up_stop HDn.out (.inl j0)
      subst h1
      have k1 : ((i : Int) == (i : Int)) = true := by simp
      clear hi j0 HDn
      go_wp2
      go_end0
      exact ⟨rfl, P1, HQwr.out, HTwr.out, HHE.out, HR.out⟩
    · have k1 : ((i : Int) == (j : Int)) = false := by simp; omega
      have ij : i < j := by omega
      have ij2 : ¬ (i : Int) = (j : Int) := by omega
      clear h1
      by_cases hs : kO sh V (P1 j) < kO sh V (P1 i)
      · have HND : Hid (UpAt (kO sh V) n i (swp P1 i j)) := up_step HDn.out (by omega) hj hi hs
        have L2 := less_any sh X q n j i V P1
        rw [decide_eq_true hs] at L2
        have HL2 : Hid (∀ w, j < n → i < n → P1 j < 60 → P1 i < 60 → Hid (QAt X q w sh n V P1) → Calls Try.prog 80 #[.pointer (some ⟨q, 0, none⟩), .int .i64 (j : Int), .int .i64 (i : Int)] w fun e w' => e = .returned (.bool true) ∧ Below w.heap.size w w') := L2
        have HI : Hid (i = (j - 1) / 2) := hi
        clear L2 hs HDn hi
        go_wp2_with fail
        refine upon_run (a := (80, Value.pointer (some ⟨q, 0, none⟩))) (w' := wr) (by kernel_rfl) ?_
        go_wp2_with fail
        refine (HL2.out _ (by omega) (by omega) (HP6.out _ (by omega)) (HP6.out _ (by omega)) HQwr).mono ?_
        rintro e w2 ⟨rfl, B2⟩
        have HQ2 : Hid (QAt X q w2 sh n V P1) := HQwr.out.below B2
        have HT2 : Hid (Turn X w w2) := HTwr.out.trans (Turn.grown B2)
        clear B2 HQwr HTwr
        go_wp2_with fail
        refine upon_run (a := (83, Value.pointer (some ⟨q, 0, none⟩))) (w' := w2) (by kernel_rfl) ?_
        go_wp2_with fail
        refine (qswap_any sh X q n i j V P1 _ (by omega) (by omega) HQ2).mono ?_
        rintro e w3 ⟨rfl, hQ3, hT3⟩
        have HQ3 : Hid (QAt X q w3 sh n V (swp P1 i j)) := hQ3
        have HT3 : Hid (Turn X w w3) := HT2.out.trans hT3
        clear hQ3 hT3 HQ2 HT2
        go_wp2
        go_roundw
        case rel => exact ⟨i, swp P1 i j, rfl, by omega, HQ3, HT3, HND.out, HR.out.swap (by omega) (by omega)⟩
        case measure => simp [intOf]; omega
      · have HHE : Hid (HeapG (kO sh V) 0 n P1) := up_stop HDn.out (.inr (by rw [← hi]; exact hs))
        have L2 := less_any sh X q n j i V P1
        rw [decide_eq_false hs] at L2
        have HL2 : Hid (∀ w, j < n → i < n → P1 j < 60 → P1 i < 60 → Hid (QAt X q w sh n V P1) → Calls Try.prog 80 #[.pointer (some ⟨q, 0, none⟩), .int .i64 (j : Int), .int .i64 (i : Int)] w fun e w' => e = .returned (.bool false) ∧ Below w.heap.size w w') := L2
        have HI : Hid (i = (j - 1) / 2) := hi
        clear L2 hs HDn hi
        go_wp2_with fail
        refine upon_run (a := (80, Value.pointer (some ⟨q, 0, none⟩))) (w' := wr) (by kernel_rfl) ?_
        go_wp2_with fail
        refine (HL2.out _ (by omega) (by omega) (HP6.out _ (by omega)) (HP6.out _ (by omega)) HQwr).mono ?_
        rintro e w2 ⟨rfl, B2⟩
        have HQ2 : Hid (QAt X q w2 sh n V P1) := HQwr.out.below B2
        have HT2 : Hid (Turn X w w2) := HTwr.out.trans (Turn.grown B2)
        clear B2 HQwr HTwr
        go_wp2
        go_end0
        exact ⟨rfl, P1, HQ2.out, HT2.out, HHE.out, HR.out⟩
end Go.Proofs.Ytcialcejmjggeaa
