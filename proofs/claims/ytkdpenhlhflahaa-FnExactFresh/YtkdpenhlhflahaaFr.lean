/-
What is proved: what is fresh of a link, as both packages tell it.
-/
import Derived.Test.YtkdpenhlhflahaaLkR
import Derived.Test.YtkdpenhlhflahaaLkC
import Derived.Test.YtkdpenhlhflahaaLkT
namespace Go.Proofs.Ytkdpenhlhflahaa
set_option maxRecDepth 40000
open Go.RowKit
set_option linter.unusedVariables false
set_option linter.unusedSimpArgs false

def frB (t : Int) (h : Bool) (q a l : Int) (n : Nat) (V : Nat → Int) (most : Int) : Bool := linkB t h q a l n V && (h && decide (a ≤ most))
def frN (t : Int) (h : Bool) (q a l : Int) (n : Nat) (V : Nat → Int) (most : Int) : Nat := if frB t h q a l n V most = true then n else 0
theorem frN_le (t : Int) (h : Bool) (q a l : Int) (n : Nat) (V : Nat → Int) (most : Int) : frN t h q a l n V most ≤ n := by unfold frN; split <;> omega
theorem copy_own {w w1 : World} {o p : Obj} {s : Option Addr} {n : Nat} {V : Nat → Int} (O : OwnI ((w.alloc o).alloc p).heap.size w1 s n V) : OwnI (w.heap.size + 1 + 1) w1 s n V := by
  have e3 : ((w.alloc o).alloc p).heap.size = w.heap.size + 1 + 1 := by simp
  rw [e3] at O
  exact O
set_option maxHeartbeats 4000000 in
theorem l13Copy_any (t : Int) (h : Bool) (q a l : Int) (ad : Addr) (n c : Nat) (V : Nat → Int) (w : World) (hn : (n : Int) ≤ 1048576) (HR : Hid (RowI w (some ad) n V)) :
    Calls Try.prog 21 #[.agg #[.int .i64 t, .bool h, .int .i64 q, .int .i64 a, .int .i64 l, .slice (some ad) n c]] w fun e w' => ∃ s' c', e = .returned (.agg #[.int .i64 t, .bool h, .int .i64 q, .int .i64 a, .int .i64 l, .slice s' n c']) ∧ OwnI w.heap.size w' s' n V ∧ Below w.heap.size w w' := by
  have sto := store_sl
  have R2 : Hid (RowI ((w.alloc (.cells #[.int .i64 t, .bool h, .int .i64 q, .int .i64 a, .int .i64 l, .slice (some ad) n c] 24)).alloc (.cells #[.int .i64 0, .bool false, .int .i64 0, .int .i64 0, .int .i64 0, .slice none 0 0] 24)) (some ad) n V) := HR.out.below (by repeat (first | with_reducible exact Below.refl _ _ | with_reducible refine Below.setCell ?_ (by first | omega | (simp; done) | (simp; omega)) _ | with_reducible refine bDrewN ?_ _ | with_reducible refine Below.drew ?_ | with_reducible refine Below.alloc ?_ (by first | omega | (simp; done) | (simp; omega)) _))
  go_enter Try.func21, Try.ntmps21
  go_wp2_with (first | (refine list_clone _ ad n c V _ _ (by rfl) (by rfl) (by rfl) (by rfl) (by simp) (by omega) R2.out ?_; intro s' cap w1 O1 h1; obtain ⟨hc, hf⟩ := bcell h1; have c0 := hc w.heap.size 0 (by first | omega | (simp; done) | (simp; omega)); have c1 := hc w.heap.size 1 (by first | omega | (simp; done) | (simp; omega)); have c2 := hc w.heap.size 2 (by first | omega | (simp; done) | (simp; omega)); have c3 := hc w.heap.size 3 (by first | omega | (simp; done) | (simp; omega)); have c4 := hc w.heap.size 4 (by first | omega | (simp; done) | (simp; omega)); have c5 := hc w.heap.size 5 (by first | omega | (simp; done) | (simp; omega)); have d0 := hc (w.heap.size + 1) 0 (by first | omega | (simp; done) | (simp; omega)); have d1 := hc (w.heap.size + 1) 1 (by first | omega | (simp; done) | (simp; omega)); have d2 := hc (w.heap.size + 1) 2 (by first | omega | (simp; done) | (simp; omega)); have d3 := hc (w.heap.size + 1) 3 (by first | omega | (simp; done) | (simp; omega)); have d4 := hc (w.heap.size + 1) 4 (by first | omega | (simp; done) | (simp; omega)); have d5 := hc (w.heap.size + 1) 5 (by first | omega | (simp; done) | (simp; omega)); have e0 := hf w.heap.size 0 (by first | omega | (simp; done) | (simp; omega)); have e1 := hf w.heap.size 1 (by first | omega | (simp; done) | (simp; omega)); have e2 := hf w.heap.size 2 (by first | omega | (simp; done) | (simp; omega)); have e3 := hf w.heap.size 3 (by first | omega | (simp; done) | (simp; omega)); have e4 := hf w.heap.size 4 (by first | omega | (simp; done) | (simp; omega)); have e5 := hf w.heap.size 5 (by first | omega | (simp; done) | (simp; omega)); have f0 := hf (w.heap.size + 1) 0 (by first | omega | (simp; done) | (simp; omega)); have f1 := hf (w.heap.size + 1) 1 (by first | omega | (simp; done) | (simp; omega)); have f2 := hf (w.heap.size + 1) 2 (by first | omega | (simp; done) | (simp; omega)); have f3 := hf (w.heap.size + 1) 3 (by first | omega | (simp; done) | (simp; omega)); have f4 := hf (w.heap.size + 1) 4 (by first | omega | (simp; done) | (simp; omega)); have f5 := hf (w.heap.size + 1) 5 (by first | omega | (simp; done) | (simp; omega)); simp [go_sem] at c0 c1 c2 c3 c4 c5 d0 d1 d2 d3 d4 d5 e0 e1 e2 e3 e4 e5 f0 f1 f2 f3 f4 f5; have B1 : Below w.heap.size w w1 := Below.trans (by repeat (first | with_reducible exact Below.refl _ _ | with_reducible refine Below.setCell ?_ (by first | omega | (simp; done) | (simp; omega)) _ | with_reducible refine bDrewN ?_ _ | with_reducible refine Below.drew ?_ | with_reducible refine Below.alloc ?_ (by first | omega | (simp; done) | (simp; omega)) _)) (h1.mono (by first | omega | (simp; done) | (simp; omega))); have s1 : w.heap.size + 1 + 1 ≤ w1.heap.size := (by have := h1.size; simp at this; exact this); have O2 : Hid (OwnI (w.heap.size + 1 + 1) w1 s' n V) := copy_own O1; clear hc hf h1 O1))
  exact bodyPost_ret (v := .agg #[.int .i64 t, .bool h, .int .i64 q, .int .i64 a, .int .i64 l, .slice s' n cap]) (by simp [results, Try.results21, go_sem, d0, d1, d2, d3, d4, d5]) rfl ⟨s', cap, rfl, (OwnI.set (OwnI.set (OwnI.set (OwnI.set (OwnI.set (OwnI.set (OwnI.set O2.out (by omega)) (by omega)) (by omega)) (by omega)) (by omega)) (by omega)) (by omega)).mono (by omega), (by repeat (first | with_reducible exact Below.refl _ _ | with_reducible exact B1 | with_reducible refine Below.setCell ?_ (by first | omega | (simp; done) | (simp; omega)) _ | with_reducible refine bDrewN ?_ _ | with_reducible refine Below.drew ?_ | with_reducible refine Below.alloc ?_ (by first | omega | (simp; done) | (simp; omega)) _))⟩
theorem field_held (t : Int) (h : Bool) (q a l : Int) (s : Option Addr) (n c : Nat) (w : World) : (Instr.field 24 (.agg #[.int .i64 t, .bool h, .int .i64 q, .int .i64 a, .int .i64 l, .slice s n c]) 5).run Try.prog w = .ok (.slice s n c) w := by kernel_rfl
set_option maxHeartbeats 4000000 in
theorem specFresh_any (t : Int) (h : Bool) (q a l : Int) (ad : Addr) (n c : Nat) (V : Nat → Int) (most : Int) (w : World) (hn : (n : Int) ≤ 1048576) (HR : Hid (RowI w (some ad) n V)) :
    Calls Try.prog 11 #[.agg #[.int .i64 t, .bool h, .int .i64 q, .int .i64 a, .int .i64 l, .slice (some ad) n c], .int .i64 most] w fun e w' => ∃ s' c', e = .returned (.tuple #[.slice s' (frN t h q a l n V most) c', .bool (frB t h q a l n V most)]) ∧ OwnI w.heap.size w' s' (frN t h q a l n V most) V ∧ Below w.heap.size w w' := by
  go_enter Try.func11, Try.ntmps11
  go_wp2_with fail
  refine (l13Link_any t h q a l (some ad) n c V _ (row_1 HR.out)).mono ?_
  rintro e w1 ⟨rfl, h1⟩
  obtain ⟨hc, hf⟩ := bcell h1
  have q0 := hc w.heap.size 0 (by first | omega | (simp; done) | (simp; omega))
  have q1 := hc w.heap.size 1 (by first | omega | (simp; done) | (simp; omega))
  have q2 := hc w.heap.size 2 (by first | omega | (simp; done) | (simp; omega))
  have q3 := hc w.heap.size 3 (by first | omega | (simp; done) | (simp; omega))
  have q4 := hc w.heap.size 4 (by first | omega | (simp; done) | (simp; omega))
  have q5 := hc w.heap.size 5 (by first | omega | (simp; done) | (simp; omega))
  simp [go_sem] at q0 q1 q2 q3 q4 q5
  have z1 : w.heap.size < w1.heap.size := by have := h1.size; simp at this; omega
  have B1 : Below w.heap.size w w1 := Below.trans (by repeat (first | with_reducible exact Below.refl _ _ | with_reducible refine Below.setCell ?_ (by first | omega | (simp; done) | (simp; omega)) _ | with_reducible refine bDrewN ?_ _ | with_reducible refine Below.drew ?_ | with_reducible refine Below.alloc ?_ (by first | omega | (simp; done) | (simp; omega)) _)) (h1.mono (by first | omega | (simp; done) | (simp; omega)))
  have R1 : Hid (RowI w1 (some ad) n V) := HR.out.below B1
  have s1 := B1.size
  clear hc hf h1
  cases k0 : linkB t h q a l n V
  · have HN0 : frB t h q a l n V most = false := by unfold frB; simp [k0]
    have HN : Hid (frN t h q a l n V most = 0 ∧ frB t h q a l n V most = false) := (⟨by unfold frN; simp [HN0], HN0⟩ : frN t h q a l n V most = 0 ∧ frB t h q a l n V most = false)
    clear HN0
    go_wp2
    exact bodyPost_ret (v := .tuple #[.slice (some ⟨w1.heap.size, 0, none⟩) 0 0, .bool false]) (by simp [results, Try.results11, go_sem]) rfl ⟨_, 0, by rw [HN.out.1, HN.out.2], by rw [HN.out.1]; exact fun j hj => by omega, (by repeat (first | with_reducible exact Below.refl _ _ | with_reducible exact B1 | with_reducible refine Below.setCell ?_ (by first | omega | (simp; done) | (simp; omega)) _ | with_reducible refine bDrewN ?_ _ | with_reducible refine Below.drew ?_ | with_reducible refine Below.alloc ?_ (by first | omega | (simp; done) | (simp; omega)) _))⟩
  cases h
  · have HN0 : frB t false q a l n V most = false := by unfold frB; simp [k0]
    have HN : Hid (frN t false q a l n V most = 0 ∧ frB t false q a l n V most = false) := (⟨by unfold frN; simp [HN0], HN0⟩ : frN t false q a l n V most = 0 ∧ frB t false q a l n V most = false)
    clear HN0
    go_wp2
    exact bodyPost_ret (v := .tuple #[.slice (some ⟨w1.heap.size, 0, none⟩) 0 0, .bool false]) (by simp [results, Try.results11, go_sem]) rfl ⟨_, 0, by rw [HN.out.1, HN.out.2], by rw [HN.out.1]; exact fun j hj => by omega, (by repeat (first | with_reducible exact Below.refl _ _ | with_reducible exact B1 | with_reducible refine Below.setCell ?_ (by first | omega | (simp; done) | (simp; omega)) _ | with_reducible refine bDrewN ?_ _ | with_reducible refine Below.drew ?_ | with_reducible refine Below.alloc ?_ (by first | omega | (simp; done) | (simp; omega)) _))⟩
  by_cases k2 : a ≤ most
  case neg =>
    have HN0 : frB t true q a l n V most = false := by unfold frB; simp [k2]
    have HN : Hid (frN t true q a l n V most = 0 ∧ frB t true q a l n V most = false) := (⟨by unfold frN; simp [HN0], HN0⟩ : frN t true q a l n V most = 0 ∧ frB t true q a l n V most = false)
    clear HN0
    go_wp2
    exact bodyPost_ret (v := .tuple #[.slice (some ⟨w1.heap.size, 0, none⟩) 0 0, .bool false]) (by simp [results, Try.results11, go_sem]) rfl ⟨_, 0, by rw [HN.out.1, HN.out.2], by rw [HN.out.1]; exact fun j hj => by omega, (by repeat (first | with_reducible exact Below.refl _ _ | with_reducible exact B1 | with_reducible refine Below.setCell ?_ (by first | omega | (simp; done) | (simp; omega)) _ | with_reducible refine bDrewN ?_ _ | with_reducible refine Below.drew ?_ | with_reducible refine Below.alloc ?_ (by first | omega | (simp; done) | (simp; omega)) _))⟩
  have HN0 : frB t true q a l n V most = true := by unfold frB; simp [k0, k2]
  have HN : Hid (frN t true q a l n V most = n ∧ frB t true q a l n V most = true) := (⟨by unfold frN; simp [HN0], HN0⟩ : frN t true q a l n V most = n ∧ frB t true q a l n V most = true)
  clear HN0
  go_wp2_with fail
  refine (l13Copy_any t true q a l ad n c V _ hn R1.out).mono ?_
  rintro e w2 ⟨s2, c2, rfl, O2, h2⟩
  have fh := field_held t true q a l s2 n c2
  have B2 : Below w.heap.size w w2 := B1.trans (h2.mono s1)
  go_wp2
  exact bodyPost_ret (v := .tuple #[.slice s2 n c2, .bool true]) (by simp [results, Try.results11, go_sem]) rfl ⟨s2, c2, by rw [HN.out.1, HN.out.2], by rw [HN.out.1]; exact O2.mono s1, B2⟩
set_option maxHeartbeats 4000000 in
theorem implFresh_any (t : Int) (h : Bool) (q a l : Int) (ad : Addr) (n c : Nat) (V : Nat → Int) (most : Int) (w : World) (hn : (n : Int) ≤ 1048576) (HR : Hid (RowI w (some ad) n V)) :
    Calls Try.prog 13 #[.agg #[.int .i64 t, .bool h, .int .i64 q, .int .i64 a, .int .i64 l, .slice (some ad) n c], .int .i64 most] w fun e w' => ∃ s' c', e = .returned (.tuple #[.slice s' (frN t h q a l n V most) c', .bool (frB t h q a l n V most)]) ∧ OwnI w.heap.size w' s' (frN t h q a l n V most) V ∧ Below w.heap.size w w' := by
  go_enter Try.func13, Try.ntmps13
  go_wp2_with fail
  refine (linkRight_any t h q a l (some ad) n c V _ hn (row_1 HR.out)).mono ?_
  rintro e w1 ⟨rfl, h1⟩
  obtain ⟨hc, hf⟩ := bcell h1
  have q0 := hc w.heap.size 0 (by first | omega | (simp; done) | (simp; omega))
  have q1 := hc w.heap.size 1 (by first | omega | (simp; done) | (simp; omega))
  have q2 := hc w.heap.size 2 (by first | omega | (simp; done) | (simp; omega))
  have q3 := hc w.heap.size 3 (by first | omega | (simp; done) | (simp; omega))
  have q4 := hc w.heap.size 4 (by first | omega | (simp; done) | (simp; omega))
  have q5 := hc w.heap.size 5 (by first | omega | (simp; done) | (simp; omega))
  simp [go_sem] at q0 q1 q2 q3 q4 q5
  have z1 : w.heap.size < w1.heap.size := by have := h1.size; simp at this; omega
  have B1 : Below w.heap.size w w1 := Below.trans (by repeat (first | with_reducible exact Below.refl _ _ | with_reducible refine Below.setCell ?_ (by first | omega | (simp; done) | (simp; omega)) _ | with_reducible refine bDrewN ?_ _ | with_reducible refine Below.drew ?_ | with_reducible refine Below.alloc ?_ (by first | omega | (simp; done) | (simp; omega)) _)) (h1.mono (by first | omega | (simp; done) | (simp; omega)))
  have R1 : Hid (RowI w1 (some ad) n V) := HR.out.below B1
  have s1 := B1.size
  clear hc hf h1
  cases k0 : linkB t h q a l n V
  · have HN0 : frB t h q a l n V most = false := by unfold frB; simp [k0]
    have HN : Hid (frN t h q a l n V most = 0 ∧ frB t h q a l n V most = false) := (⟨by unfold frN; simp [HN0], HN0⟩ : frN t h q a l n V most = 0 ∧ frB t h q a l n V most = false)
    clear HN0
    go_wp2
    exact bodyPost_ret (v := .tuple #[.slice none 0 0, .bool false]) (by simp [results, Try.results13, go_sem]) rfl ⟨none, 0, by rw [HN.out.1, HN.out.2], by rw [HN.out.1]; exact fun j hj => by omega, (by repeat (first | with_reducible exact Below.refl _ _ | with_reducible exact B1 | with_reducible refine Below.setCell ?_ (by first | omega | (simp; done) | (simp; omega)) _ | with_reducible refine bDrewN ?_ _ | with_reducible refine Below.drew ?_ | with_reducible refine Below.alloc ?_ (by first | omega | (simp; done) | (simp; omega)) _))⟩
  cases h
  · have HN0 : frB t false q a l n V most = false := by unfold frB; simp [k0]
    have HN : Hid (frN t false q a l n V most = 0 ∧ frB t false q a l n V most = false) := (⟨by unfold frN; simp [HN0], HN0⟩ : frN t false q a l n V most = 0 ∧ frB t false q a l n V most = false)
    clear HN0
    go_wp2
    exact bodyPost_ret (v := .tuple #[.slice none 0 0, .bool false]) (by simp [results, Try.results13, go_sem]) rfl ⟨none, 0, by rw [HN.out.1, HN.out.2], by rw [HN.out.1]; exact fun j hj => by omega, (by repeat (first | with_reducible exact Below.refl _ _ | with_reducible exact B1 | with_reducible refine Below.setCell ?_ (by first | omega | (simp; done) | (simp; omega)) _ | with_reducible refine bDrewN ?_ _ | with_reducible refine Below.drew ?_ | with_reducible refine Below.alloc ?_ (by first | omega | (simp; done) | (simp; omega)) _))⟩
  by_cases k2 : a ≤ most
  case neg =>
    have HN0 : frB t true q a l n V most = false := by unfold frB; simp [k2]
    have HN : Hid (frN t true q a l n V most = 0 ∧ frB t true q a l n V most = false) := (⟨by unfold frN; simp [HN0], HN0⟩ : frN t true q a l n V most = 0 ∧ frB t true q a l n V most = false)
    clear HN0
    go_wp2
    exact bodyPost_ret (v := .tuple #[.slice none 0 0, .bool false]) (by simp [results, Try.results13, go_sem]) rfl ⟨none, 0, by rw [HN.out.1, HN.out.2], by rw [HN.out.1]; exact fun j hj => by omega, (by repeat (first | with_reducible exact Below.refl _ _ | with_reducible exact B1 | with_reducible refine Below.setCell ?_ (by first | omega | (simp; done) | (simp; omega)) _ | with_reducible refine bDrewN ?_ _ | with_reducible refine Below.drew ?_ | with_reducible refine Below.alloc ?_ (by first | omega | (simp; done) | (simp; omega)) _))⟩
  have HN0 : frB t true q a l n V most = true := by unfold frB; simp [k0, k2]
  have HN : Hid (frN t true q a l n V most = n ∧ frB t true q a l n V most = true) := (⟨by unfold frN; simp [HN0], HN0⟩ : frN t true q a l n V most = n ∧ frB t true q a l n V most = true)
  clear HN0
  go_wp2_with fail
  refine (clone_any ad n c V _ (by omega) R1.out).mono ?_
  rintro e w2 ⟨s2, c2, rfl, O2, h2⟩
  have fh := field_held t true q a l s2 n c2
  have B2 : Below w.heap.size w w2 := B1.trans (h2.mono s1)
  go_wp2
  exact bodyPost_ret (v := .tuple #[.slice s2 n c2, .bool true]) (by simp [results, Try.results13, go_sem]) rfl ⟨s2, c2, by rw [HN.out.1, HN.out.2], by rw [HN.out.1]; exact O2.mono s1, B2⟩
end Go.Proofs.Ytkdpenhlhflahaa
