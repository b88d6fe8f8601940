/-
What is proved: lists of int64s that lie in a struct: what is kept of them, marked in them, and their sizes.
-/
import Derived.Test.YtkaicllddneokaaI64
import Derived.Test.YtkaicllddneokaaSp
namespace Go.Proofs.Ytkaicllddneokaa
set_option maxRecDepth 40000
open Go.RowKit
set_option linter.unusedVariables false
set_option linter.unusedSimpArgs false

theorem own_alloc {base : Nat} {w : World} {s : Option Addr} {n : Nat} {V : Nat → Int} {o : Obj} (h : OwnI base w s n V) : OwnI base (w.alloc o) s n V := h.below (by repeat (first | with_reducible exact Below.refl _ _ | with_reducible refine Below.setCell ?_ (by first | omega | (simp; done) | (simp; omega)) _ | with_reducible refine bDrewN ?_ _ | with_reducible refine Below.drew ?_ | with_reducible refine Below.alloc ?_ (by first | omega | (simp; done) | (simp; omega)) _))
theorem row_two {w : World} {s : Option Addr} {n : Nat} {V : Nat → Int} {o p : Obj} (h : RowI w s n V) : RowI ((w.alloc o).alloc p) s n V := h.below (by repeat (first | with_reducible exact Below.refl _ _ | with_reducible refine Below.setCell ?_ (by first | omega | (simp; done) | (simp; omega)) _ | with_reducible refine bDrewN ?_ _ | with_reducible refine Below.drew ?_ | with_reducible refine Below.alloc ?_ (by first | omega | (simp; done) | (simp; omega)) _))
theorem row_one {w : World} {s : Option Addr} {n : Nat} {V : Nat → Int} {o : Obj} (h : RowI w s n V) : RowI (w.alloc o) s n V := h.below (by repeat (first | with_reducible exact Below.refl _ _ | with_reducible refine Below.setCell ?_ (by first | omega | (simp; done) | (simp; omega)) _ | with_reducible refine bDrewN ?_ _ | with_reducible refine Below.drew ?_ | with_reducible refine Below.alloc ?_ (by first | omega | (simp; done) | (simp; omega)) _))
theorem store_sl : ∀ (W : World) (a : Addr) (s : Option Addr) (n c : Nat), (W.cell? a).isSome = true → W.frozen? a = false → (store a (.slice s n c)).run Try.prog W = .ok () (W.setCell a (.slice s n c)) := fun W a s n c h hf => by
  obtain ⟨u, hu⟩ := Option.isSome_iff_exists.1 h
  rw [run_store Try.prog W a _ _ rfl, hu]
  simp [hf]
theorem own_at {base : Nat} {w : World} {s : Option Addr} {n : Nat} {V : Nat → Int} (h : OwnI base w s n V) : 0 < n → ∀ b, s = some ⟨b, 0, none⟩ → base ≤ b ∧ b < w.heap.size := fun hn b e => by
  obtain ⟨b', e', h1, h2, _⟩ := h 0 hn
  rw [e] at e'
  cases e'
  exact ⟨h1, h2⟩
theorem OwnI.set {base : Nat} {w : World} {s : Option Addr} {n : Nat} {V : Nat → Int} (h : OwnI base w s n V) {r o : Nat} {u : Value} (hr : r < base) : OwnI base (w.setCell ⟨r, o, none⟩ u) s n V := h.beside (Beside.setCell r w o u) hr
theorem OwnI.spared {base : Nat} {w w' : World} {s sx : Option Addr} {n nx : Nat} {V : Nat → Int} (h : OwnI base w s n V) (hs : Spared sx nx w w') (hz : w.heap.size ≤ w'.heap.size) (hb : 0 < nx → ∀ b, sx = some ⟨b, 0, none⟩ → b < base) : OwnI base w' s n V := fun j hj => by
  obtain ⟨b, e, h1, h2, h3, h4⟩ := h j hj
  have hk := hs b h2 (fun hp b' e' => by have := hb hp b' e'; omega)
  exact ⟨b, e, h1, Nat.lt_of_lt_of_le h2 hz, (show w'.cell? ⟨b, j, none⟩ = _ from (World.cell?_of_block (w := w) hk).trans h3), (show w'.frozen? ⟨b, j, none⟩ = _ from (World.frozen?_of_block (w := w) hk).trans h4)⟩
theorem markInt64S_sp (base : Nat) (s : Option Addr) (n c : Nat) (k : Int) (V : Nat → Int) (w : World) (hn : (n : Int) ≤ 1048576) (k0 : 0 ≤ k) (k1 : k ≤ 100000000) (hb : base ≤ w.heap.size) (HR : OwnI base w s n V) :
    Calls Try.prog 29 #[.slice s n c, .int .i64 k] w fun e w' => e = .returned (.int .i64 (k + n)) ∧ OwnI base w' s n (fun j => k + j) ∧ Below base w w' ∧ Spared s n w w' := by
  by_cases h : n = 0
  · subst h
    refine (markInt64S_nil s c k w).mono ?_
    rintro e w' ⟨rfl, rfl⟩
    exact ⟨by simp, fun j hj => by omega, Below.refl _ _, Spared.refl _ _ _⟩
  · refine (markInt64S_own base s n c k V w hn k0 k1 hb HR).mono ?_
    rintro e w' ⟨rfl, O, B, hs⟩
    exact ⟨rfl, O, B, Spared.of hs (fun e => absurd e h) (fun hp => by obtain ⟨b, e, _⟩ := HR 0 hp; exact ⟨b, e⟩)⟩
end Go.Proofs.Ytkaicllddneokaa
