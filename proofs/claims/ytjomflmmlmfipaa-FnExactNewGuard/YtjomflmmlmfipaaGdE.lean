/-
What is proved: a guard's flags held against another's, marked, and found as they were marked.
-/
import Derived.Test.YtjomflmmlmfipaaBoL
import Derived.Test.YtjomflmmlmfipaaSp
namespace Go.Proofs.Ytjomflmmlmfipaa
set_option maxRecDepth 40000
open Go.RowKit
set_option linter.unusedVariables false
set_option linter.unusedSimpArgs false

theorem ownB_alloc {base : Nat} {w : World} {s : Option Addr} {n : Nat} {V : Nat → Bool} {o : Obj} (h : OwnB base w s n V) : OwnB base (w.alloc o) s n V := h.below (by repeat (first | with_reducible exact Below.refl _ _ | with_reducible refine Below.setCell ?_ (by first | omega | (simp; done) | (simp; omega)) _ | with_reducible refine bDrewN ?_ _ | with_reducible refine Below.drew ?_ | with_reducible refine Below.alloc ?_ (by first | omega | (simp; done) | (simp; omega)) _))
theorem rowB_two {w : World} {s : Option Addr} {n : Nat} {V : Nat → Bool} {o p : Obj} (h : RowB w s n V) : RowB ((w.alloc o).alloc p) s n V := h.below (by repeat (first | with_reducible exact Below.refl _ _ | with_reducible refine Below.setCell ?_ (by first | omega | (simp; done) | (simp; omega)) _ | with_reducible refine bDrewN ?_ _ | with_reducible refine Below.drew ?_ | with_reducible refine Below.alloc ?_ (by first | omega | (simp; done) | (simp; omega)) _))
theorem rowB_one {w : World} {s : Option Addr} {n : Nat} {V : Nat → Bool} {o : Obj} (h : RowB w s n V) : RowB (w.alloc o) s n V := h.below (by repeat (first | with_reducible exact Below.refl _ _ | with_reducible refine Below.setCell ?_ (by first | omega | (simp; done) | (simp; omega)) _ | with_reducible refine bDrewN ?_ _ | with_reducible refine Below.drew ?_ | with_reducible refine Below.alloc ?_ (by first | omega | (simp; done) | (simp; omega)) _))
theorem ownB_at {base : Nat} {w : World} {s : Option Addr} {n : Nat} {V : Nat → Bool} (h : OwnB base w s n V) : 0 < n → ∀ b, s = some ⟨b, 0, none⟩ → base ≤ b ∧ b < w.heap.size := fun hn b e => by
  obtain ⟨b', e', h1, h2, _⟩ := h 0 hn
  rw [e] at e'
  cases e'
  exact ⟨h1, h2⟩
theorem markBoolS_sp (base : Nat) (s : Option Addr) (n c : Nat) (k : Int) (V : Nat → Bool) (w : World) (hn : (n : Int) ≤ 1048576) (k0 : 0 ≤ k) (k1 : k ≤ 100000000) (hb : base ≤ w.heap.size) (HR : OwnB base w s n V) :
    Calls Try.prog 29 #[.slice s n c, .int .i64 k] w fun e w' => e = .returned (.int .i64 (k + n)) ∧ OwnB base w' s n (markB k) ∧ Below base w w' ∧ Spared s n w w' := by
  by_cases h : n = 0
  · subst h
    refine (markBoolS_nil s c k w).mono ?_
    rintro e w' ⟨rfl, rfl⟩
    exact ⟨by simp, fun j hj => by omega, Below.refl _ _, Spared.refl _ _ _⟩
  · refine (markBoolS_own base s n c k V w hn k0 k1 hb HR).mono ?_
    rintro e w' ⟨rfl, O, B, hs⟩
    exact ⟨rfl, O, B, Spared.of hs (fun e => absurd e h) (fun hp => by obtain ⟨b, e, _⟩ := HR 0 hp; exact ⟨b, e⟩)⟩
set_option maxHeartbeats 2000000 in
theorem eqGuard_any (l : Bool) (s1 s2 : Option Addr) (n c1 c2 : Nat) (V : Nat → Bool) (w : World) (hn : (n : Int) ≤ 1048576) (H1 : Hid (RowB w s1 n V)) (H2 : Hid (RowB w s2 n V)) :
    Calls Try.prog 15 #[.agg #[.slice s1 n c1, .bool l], .agg #[.slice s2 n c2, .bool l]] w fun e w' => e = .returned (.bool true) ∧ Below w.heap.size w w' := by
  go_enter Try.func15, Try.ntmps15
  go_wp2_with fail
  refine (eqBoolS_any s1 s2 n c1 c2 V _ hn (rowB_two H1.out) (rowB_two H2.out)).mono ?_
  rintro e w1 ⟨rfl, h1⟩
  have B1 : Below w.heap.size w w1 := Below.trans (by repeat (first | with_reducible exact Below.refl _ _ | with_reducible refine Below.setCell ?_ (by first | omega | (simp; done) | (simp; omega)) _ | with_reducible refine bDrewN ?_ _ | with_reducible refine Below.drew ?_ | with_reducible refine Below.alloc ?_ (by first | omega | (simp; done) | (simp; omega)) _)) (h1.mono (by first | omega | (simp; done) | (simp; omega)))
  obtain ⟨hc, hf⟩ := bcell h1
  have q1 := hc w.heap.size 1 (by first | omega | (simp; done) | (simp; omega))
  have q2 := hc (w.heap.size + 1) 1 (by first | omega | (simp; done) | (simp; omega))
  simp [go_sem] at q1 q2
  clear h1 hc hf
  go_wp2
  go_ret
  exact ⟨rfl, B1⟩
set_option maxHeartbeats 1000000 in
theorem markGuard_sp (l : Bool) (base : Nat) (s : Option Addr) (n c : Nat) (k : Int) (V : Nat → Bool) (w : World) (hn : (n : Int) ≤ 1048576) (k0 : 0 ≤ k) (k1 : k ≤ 100000000) (hb : base ≤ w.heap.size) (HR : Hid (OwnB base w s n V)) :
    Calls Try.prog 16 #[.agg #[.slice s n c, .bool l], .int .i64 k] w fun e w' => e = .returned (.int .i64 (k + n)) ∧ OwnB base w' s n (markB k) ∧ Below base w w' ∧ Spared s n w w' := by
  go_enter Try.func16, Try.ntmps16
  go_wp2_with fail
  refine (markBoolS_sp base s n c k V _ hn k0 k1 (by first | omega | (simp; done) | (simp; omega)) (ownB_alloc HR.out)).mono ?_
  rintro e w1 ⟨rfl, O1, h1, hs⟩
  have B1 : Below base w w1 := Below.trans (Below.mono (B := w.heap.size) (by repeat (first | with_reducible exact Below.refl _ _ | with_reducible refine Below.setCell ?_ (by first | omega | (simp; done) | (simp; omega)) _ | with_reducible refine bDrewN ?_ _ | with_reducible refine Below.drew ?_ | with_reducible refine Below.alloc ?_ (by first | omega | (simp; done) | (simp; omega)) _)) hb) h1
  have S1 : Spared s n w w1 := hs.from (by repeat (first | with_reducible exact Below.refl _ _ | with_reducible refine Below.setCell ?_ (by first | omega | (simp; done) | (simp; omega)) _ | with_reducible refine bDrewN ?_ _ | with_reducible refine Below.drew ?_ | with_reducible refine Below.alloc ?_ (by first | omega | (simp; done) | (simp; omega)) _))
  clear hs h1
  go_wp2
  go_ret
  exact ⟨rfl, O1, B1, S1⟩
set_option maxHeartbeats 1000000 in
theorem heldGuard_any (l : Bool) (s : Option Addr) (n c : Nat) (k : Int) (w : World) (hn : (n : Int) ≤ 1048576) (k0 : 0 ≤ k) (k1 : k ≤ 100000000) (HR : Hid (RowB w s n (markB k))) :
    Calls Try.prog 17 #[.agg #[.slice s n c, .bool l], .int .i64 k] w fun e w' => e = .returned (.int .i64 (k + n)) ∧ Below w.heap.size w w' := by
  go_enter Try.func17, Try.ntmps17
  go_wp2_with fail
  refine (heldBoolS_any s n c k _ hn k0 k1 (rowB_one HR.out)).mono ?_
  rintro e w1 ⟨rfl, rfl⟩
  go_wp2
  go_ret
  exact ⟨rfl, (by repeat (first | with_reducible exact Below.refl _ _ | with_reducible refine Below.setCell ?_ (by first | omega | (simp; done) | (simp; omega)) _ | with_reducible refine bDrewN ?_ _ | with_reducible refine Below.drew ?_ | with_reducible refine Below.alloc ?_ (by first | omega | (simp; done) | (simp; omega)) _))⟩
end Go.Proofs.Ytjomflmmlmfipaa
