/-
What is proved: a link copied over from the law's own kind of one, and its size; what marking one spares.
-/
import Derived.Test.YtkocbklkiehdiaaLkE
import Derived.Test.YtkocbklkiehdiaaSp
namespace Go.Proofs.Ytkocbklkiehdiaa
set_option maxRecDepth 40000
open Go.RowKit
set_option linter.unusedVariables false
set_option linter.unusedSimpArgs false

theorem store_sl : ∀ (W : World) (a : Addr) (s : Option Addr) (n c : Nat), (W.cell? a).isSome = true → W.frozen? a = false → (store a (.slice s n c)).run Try.prog W = .ok () (W.setCell a (.slice s n c)) := fun W a s n c h hf => by
  obtain ⟨u, hu⟩ := Option.isSome_iff_exists.1 h
  rw [run_store Try.prog W a _ _ rfl, hu]
  simp [hf]
theorem own_at {base : Nat} {w : World} {s : Option Addr} {n : Nat} {V : Nat → Int} (h : OwnI base w s n V) : 0 < n → ∀ b, s = some ⟨b, 0, none⟩ → base ≤ b ∧ b < w.heap.size := fun hn b e => by
  obtain ⟨b', e', h1, h2, _⟩ := h 0 hn
  rw [e] at e'
  cases e'
  exact ⟨h1, h2⟩
theorem OwnI.set {base : Nat} {w : World} {s : Option Addr} {n : Nat} {V : Nat → Int} (h : OwnI base w s n V) {r o : Nat} {u : Value} (hr : r < base) : OwnI base (w.setCell ⟨r, o, none⟩ u) s n V := h.beside (Beside.setCell r w o u) hr
theorem OwnI.spared {base : Nat} {w w' : World} {s sx : Option Addr} {n nx : Nat} {V : Nat → Int} (h : OwnI base w s n V) (hs : Spared sx nx w w') (hz : w.heap.size ≤ w'.heap.size) (hb : 0 < nx → ∀ b, sx = some ⟨b, 0, none⟩ → b < base) : OwnI base w' s n V := fun j hj => by
  obtain ⟨b, e, h1, h2, h3, h4⟩ := h j hj
  have hk := hs b h2 (fun hp b' e' => by have := hb hp b' e'; omega)
  exact ⟨b, e, h1, Nat.lt_of_lt_of_le h2 hz, (show w'.cell? ⟨b, j, none⟩ = _ from (World.cell?_of_block (w := w) hk).trans h3), (show w'.frozen? ⟨b, j, none⟩ = _ from (World.frozen?_of_block (w := w) hk).trans h4)⟩
theorem markInt64S_sp (base : Nat) (s : Option Addr) (n c : Nat) (k : Int) (V : Nat → Int) (w : World) (hn : (n : Int) ≤ 1048576) (k0 : 0 ≤ k) (k1 : k ≤ 100000000) (hb : base ≤ w.heap.size) (HR : OwnI base w s n V) :
    Calls Try.prog 26 #[.slice s n c, .int .i64 k] w fun e w' => e = .returned (.int .i64 (k + n)) ∧ OwnI base w' s n (fun j => k + j) ∧ Below base w w' ∧ Spared s n w w' := by
  by_cases h : n = 0
  · subst h
    refine (markInt64S_nil s c k w).mono ?_
    rintro e w' ⟨rfl, rfl⟩
    exact ⟨by simp, fun j hj => by omega, Below.refl _ _, Spared.refl _ _ _⟩
  · refine (markInt64S_own base s n c k V w hn k0 k1 hb HR).mono ?_
    rintro e w' ⟨rfl, O, B, hs⟩
    exact ⟨rfl, O, B, Spared.of hs (fun e => absurd e h) (fun hp => by obtain ⟨b, e, _⟩ := HR 0 hp; exact ⟨b, e⟩)⟩
set_option maxHeartbeats 1000000 in
theorem markLink_sp (t : Int) (h : Bool) (q a l : Int) (base : Nat) (s : Option Addr) (n c : Nat) (k : Int) (V : Nat → Int) (w : World) (hn : (n : Int) ≤ 1048576) (k0 : 0 ≤ k) (k1 : k ≤ 100000000) (hb : base ≤ w.heap.size) (HR : Hid (OwnI base w s n V)) :
    Calls Try.prog 21 #[.agg #[.int .i64 t, .bool h, .int .i64 q, .int .i64 a, .int .i64 l, .slice s n c], .int .i64 k] w fun e w' => e = .returned (.int .i64 (k + n)) ∧ OwnI base w' s n (fun j => k + j) ∧ Below base w w' ∧ Spared s n w w' := by
  go_enter Try.func21, Try.ntmps21
  go_wp2_with fail
  refine (markInt64S_sp base s n c k V _ hn k0 k1 (by first | omega | (simp; done) | (simp; omega)) (own_alloc HR.out)).mono ?_
  rintro e w1 ⟨rfl, O1, h1, hs⟩
  have B1 : Below base w w1 := Below.trans (Below.mono (B := w.heap.size) (by repeat (first | with_reducible exact Below.refl _ _ | with_reducible refine Below.setCell ?_ (by first | omega | (simp; done) | (simp; omega)) _ | with_reducible refine bDrewN ?_ _ | with_reducible refine Below.drew ?_ | with_reducible refine Below.alloc ?_ (by first | omega | (simp; done) | (simp; omega)) _)) hb) h1
  have S1 : Spared s n w w1 := hs.from (by repeat (first | with_reducible exact Below.refl _ _ | with_reducible refine Below.setCell ?_ (by first | omega | (simp; done) | (simp; omega)) _ | with_reducible refine bDrewN ?_ _ | with_reducible refine Below.drew ?_ | with_reducible refine Below.alloc ?_ (by first | omega | (simp; done) | (simp; omega)) _))
  clear hs h1
  go_wp2
  go_ret
  exact ⟨rfl, O1, B1, S1⟩
theorem szInt64S_on (s : Option Addr) (n c : Nat) (l : Int) (w : World) (h0 : 0 ≤ l) (h1 : l ≤ 1048576) (hn : (n : Int) ≤ l) : Calls Try.prog 52 #[.slice s n c, .int .i64 l] w fun e w' => e = .returned (.int .i64 (l - n)) ∧ w' = w := by
  go_enter Try.func52, Try.ntmps52
  go_wp2
  go_ret
  exact ⟨rfl, rfl⟩
theorem szInt64S_off (s : Option Addr) (n c : Nat) (l : Int) (w : World) (h0 : 0 ≤ l) (h1 : l ≤ 1048576) (hn : l < (n : Int)) (hn' : (n : Int) ≤ 9223372036854775807) : Calls Try.prog 52 #[.slice s n c, .int .i64 l] w fun e w' => e = .returned (.int .i64 (-1)) ∧ w' = w := by
  go_enter Try.func52, Try.ntmps52
  go_wp2
  go_ret
  exact ⟨rfl, rfl⟩
set_option maxHeartbeats 800000 in
theorem szLink_on (t : Int) (h : Bool) (q a l : Int) (s : Option Addr) (n c : Nat) (k : Int) (w : World) (h0 : 0 ≤ k) (h1 : k ≤ 1048576) (hn : (n : Int) ≤ k) : Calls Try.prog 16 #[.agg #[.int .i64 t, .bool h, .int .i64 q, .int .i64 a, .int .i64 l, .slice s n c], .int .i64 k] w fun e w' => e = .returned (.int .i64 (k - n)) ∧ Below w.heap.size w w' := by
  go_enter Try.func16, Try.ntmps16
  go_wp2_with fail
  refine (szInt64S_on _ n _ _ _ h0 h1 hn).mono ?_
  rintro e w1 ⟨rfl, rfl⟩
  go_wp2
  go_ret
  exact ⟨rfl, (by repeat (first | with_reducible exact Below.refl _ _ | with_reducible refine Below.setCell ?_ (by first | omega | (simp; done) | (simp; omega)) _ | with_reducible refine bDrewN ?_ _ | with_reducible refine Below.drew ?_ | with_reducible refine Below.alloc ?_ (by first | omega | (simp; done) | (simp; omega)) _))⟩
set_option maxHeartbeats 800000 in
theorem szLink_off (t : Int) (h : Bool) (q a l : Int) (s : Option Addr) (n c : Nat) (k : Int) (w : World) (h0 : 0 ≤ k) (h1 : k ≤ 1048576) (hn : k < (n : Int)) (hn' : (n : Int) ≤ 9223372036854775807) : Calls Try.prog 16 #[.agg #[.int .i64 t, .bool h, .int .i64 q, .int .i64 a, .int .i64 l, .slice s n c], .int .i64 k] w fun e w' => e = .returned (.int .i64 (-1)) ∧ Below w.heap.size w w' := by
  go_enter Try.func16, Try.ntmps16
  go_wp2_with fail
  refine (szInt64S_off _ n _ _ _ h0 h1 hn hn').mono ?_
  rintro e w1 ⟨rfl, rfl⟩
  go_wp2
  go_ret
  exact ⟨rfl, (by repeat (first | with_reducible exact Below.refl _ _ | with_reducible refine Below.setCell ?_ (by first | omega | (simp; done) | (simp; omega)) _ | with_reducible refine bDrewN ?_ _ | with_reducible refine Below.drew ?_ | with_reducible refine Below.alloc ?_ (by first | omega | (simp; done) | (simp; omega)) _))⟩
set_option maxHeartbeats 4000000 in
theorem toLink_any (t : Int) (h : Bool) (q a l : Int) (s : Option Addr) (n c : Nat) (V : Nat → Int) (w : World) (hn : (n : Int) ≤ 1048576) (HR : Hid (RowI w s n V)) :
    Calls Try.prog 17 #[.agg #[.int .i64 t, .bool h, .int .i64 q, .int .i64 a, .int .i64 l, .slice s n c]] w fun e w' => ∃ b, e = .returned (.agg #[.int .i64 t, .bool h, .int .i64 q, .int .i64 a, .int .i64 l, .slice (some ⟨b, 0, none⟩) n n]) ∧ w.heap.size ≤ b ∧ b < w'.heap.size ∧ OwnI w.heap.size w' (some ⟨b, 0, none⟩) n V ∧ Below w.heap.size w w' := by
  have sto := store_sl
  go_enter Try.func17, Try.ntmps17
  go_wp2_with fail
  refine (toInt64S_any s n c V _ hn (HR.out.below (by repeat (first | with_reducible exact Below.refl _ _ | with_reducible refine Below.setCell ?_ (by first | omega | (simp; done) | (simp; omega)) _ | with_reducible refine bDrewN ?_ _ | with_reducible refine Below.drew ?_ | with_reducible refine Below.alloc ?_ (by first | omega | (simp; done) | (simp; omega)) _)))).mono ?_
  rintro e w1 ⟨rfl, z1, O1, h1⟩
  obtain ⟨hc, hf⟩ := bcell h1
  have c0 := hc (w.heap.size + 1) 0 (by first | omega | (simp; done) | (simp; omega))
  have c1 := hc (w.heap.size + 1) 1 (by first | omega | (simp; done) | (simp; omega))
  have c2 := hc (w.heap.size + 1) 2 (by first | omega | (simp; done) | (simp; omega))
  have c3 := hc (w.heap.size + 1) 3 (by first | omega | (simp; done) | (simp; omega))
  have c4 := hc (w.heap.size + 1) 4 (by first | omega | (simp; done) | (simp; omega))
  have c5 := hc (w.heap.size + 1) 5 (by first | omega | (simp; done) | (simp; omega))
  have d0 := hc (w.heap.size + 1 + 1) 0 (by first | omega | (simp; done) | (simp; omega))
  have d1 := hc (w.heap.size + 1 + 1) 1 (by first | omega | (simp; done) | (simp; omega))
  have d2 := hc (w.heap.size + 1 + 1) 2 (by first | omega | (simp; done) | (simp; omega))
  have d3 := hc (w.heap.size + 1 + 1) 3 (by first | omega | (simp; done) | (simp; omega))
  have d4 := hc (w.heap.size + 1 + 1) 4 (by first | omega | (simp; done) | (simp; omega))
  have d5 := hc (w.heap.size + 1 + 1) 5 (by first | omega | (simp; done) | (simp; omega))
  have e0 := hf (w.heap.size + 1) 0 (by first | omega | (simp; done) | (simp; omega))
  have e1 := hf (w.heap.size + 1) 1 (by first | omega | (simp; done) | (simp; omega))
  have e2 := hf (w.heap.size + 1) 2 (by first | omega | (simp; done) | (simp; omega))
  have e3 := hf (w.heap.size + 1) 3 (by first | omega | (simp; done) | (simp; omega))
  have e4 := hf (w.heap.size + 1) 4 (by first | omega | (simp; done) | (simp; omega))
  have e5 := hf (w.heap.size + 1) 5 (by first | omega | (simp; done) | (simp; omega))
  have f0 := hf (w.heap.size + 1 + 1) 0 (by first | omega | (simp; done) | (simp; omega))
  have f1 := hf (w.heap.size + 1 + 1) 1 (by first | omega | (simp; done) | (simp; omega))
  have f2 := hf (w.heap.size + 1 + 1) 2 (by first | omega | (simp; done) | (simp; omega))
  have f3 := hf (w.heap.size + 1 + 1) 3 (by first | omega | (simp; done) | (simp; omega))
  have f4 := hf (w.heap.size + 1 + 1) 4 (by first | omega | (simp; done) | (simp; omega))
  have f5 := hf (w.heap.size + 1 + 1) 5 (by first | omega | (simp; done) | (simp; omega))
  simp [go_sem] at c0 c1 c2 c3 c4 c5 d0 d1 d2 d3 d4 d5 e0 e1 e2 e3 e4 e5 f0 f1 f2 f3 f4 f5
  simp at z1
  have B1 : Below w.heap.size w w1 := Below.trans (by repeat (first | with_reducible exact Below.refl _ _ | with_reducible refine Below.setCell ?_ (by first | omega | (simp; done) | (simp; omega)) _ | with_reducible refine bDrewN ?_ _ | with_reducible refine Below.drew ?_ | with_reducible refine Below.alloc ?_ (by first | omega | (simp; done) | (simp; omega)) _)) (h1.mono (by first | omega | (simp; done) | (simp; omega)))
  have s1 := B1.size
  have O2 : Hid (OwnI (w.heap.size + 1 + 1 + 1) w1 (some ⟨w.heap.size + 1 + 1 + 1, 0, none⟩) n V) := by
    have e3 : (((w.alloc (.cells #[.int .i64 t, .bool h, .int .i64 q, .int .i64 a, .int .i64 l, .slice s n c] 39)).alloc (.cells #[.int .i64 0, .bool false, .int .i64 0, .int .i64 0, .int .i64 0, .slice none 0 0] 26)).alloc (.cells #[.int .i64 t, .bool h, .int .i64 q, .int .i64 a, .int .i64 l, .slice none 0 0] 26)).heap.size = w.heap.size + 1 + 1 + 1 := by simp
    rw [e3] at O1
    exact O1
  clear hc hf h1 O1
  go_wp2
  exact bodyPost_ret (v := .agg #[.int .i64 t, .bool h, .int .i64 q, .int .i64 a, .int .i64 l, .slice (some ⟨w.heap.size + 1 + 1 + 1, 0, none⟩) n n]) (by simp [results, Try.results17, go_sem, c0, c1, c2, c3, c4, c5]) rfl ⟨w.heap.size + 1 + 1 + 1, rfl, by omega, by simp; omega, (OwnI.set (OwnI.set (OwnI.set (OwnI.set (OwnI.set (OwnI.set (OwnI.set O2.out (by omega)) (by omega)) (by omega)) (by omega)) (by omega)) (by omega)) (by omega)).mono (by omega), (by repeat (first | with_reducible exact Below.refl _ _ | with_reducible exact B1 | with_reducible refine Below.setCell ?_ (by first | omega | (simp; done) | (simp; omega)) _ | with_reducible refine bDrewN ?_ _ | with_reducible refine Below.drew ?_ | with_reducible refine Below.alloc ?_ (by first | omega | (simp; done) | (simp; omega)) _))⟩
end Go.Proofs.Ytkocbklkiehdiaa
