/-
What is proved: a book: what the law's own helpers do with one: a copy, its size, whether two are the same, marks.
-/
import Derived.Test.YtikcfpjfcpbfcaaTn
import Derived.Test.YtikcfpjfcpbfcaaPeT
namespace Go.Proofs.Ytikcfpjfcpbfcaa
set_option maxRecDepth 40000
open Go.ChangeShapes Go.WideShapes Go.ChangeAt Go.RowKit
set_option linter.unusedVariables false
set_option linter.unusedSimpArgs false

def RowBook (w : World) (s0 : Option Addr) (n0 : Nat) (X0 : Nat → Int) (Y0 : Nat → Int) (K0 : Nat → Nat) (V0 : Nat → Nat → Int) : Prop := RowPer w s0 n0 X0 Y0 K0 V0
theorem RowBook.below {w w' : World} {s0 : Option Addr} {n0 : Nat} {X0 : Nat → Int} {Y0 : Nat → Int} {K0 : Nat → Nat} {V0 : Nat → Nat → Int} (h : RowBook w s0 n0 X0 Y0 K0 V0) (hb : Below w.heap.size w w') : RowBook w' s0 n0 X0 Y0 K0 V0 := RowPer.below h hb
def BookR (S : Nat → Prop) (w : World) (s0 : Option Addr) (n0 : Nat) (X0 : Nat → Int) (Y0 : Nat → Int) (K0 : Nat → Nat) (V0 : Nat → Nat → Int) : Prop := PerR S w s0 n0 X0 Y0 K0 V0
theorem BookR.row {S : Nat → Prop} {w : World} {s0 : Option Addr} {n0 : Nat} {X0 : Nat → Int} {Y0 : Nat → Int} {K0 : Nat → Nat} {V0 : Nat → Nat → Int} (h : BookR S w s0 n0 X0 Y0 K0 V0) : RowBook w s0 n0 X0 Y0 K0 V0 := PerR.row h
theorem BookR.keep {S : Nat → Prop} {w w' : World} {s0 : Option Addr} {n0 : Nat} {X0 : Nat → Int} {Y0 : Nat → Int} {K0 : Nat → Nat} {V0 : Nat → Nat → Int} (h : BookR S w s0 n0 X0 Y0 K0 V0) (hs : w.heap.size ≤ w'.heap.size) (hb : ∀ k, S k → k < w.heap.size → w'.heap[k]? = w.heap[k]?) : BookR S w' s0 n0 X0 Y0 K0 V0 := PerR.keep h hs hb
theorem BookR.below {S : Nat → Prop} {w w' : World} {s0 : Option Addr} {n0 : Nat} {X0 : Nat → Int} {Y0 : Nat → Int} {K0 : Nat → Nat} {V0 : Nat → Nat → Int} (h : BookR S w s0 n0 X0 Y0 K0 V0) (hb : Below w.heap.size w w') : BookR S w' s0 n0 X0 Y0 K0 V0 := h.keep hb.size fun k _ hk => hb.block k hk
set_option maxHeartbeats 800000 in
theorem szBook_on (n0 : Nat) (X0 : Nat → Int) (Y0 : Nat → Int) (K0 : Nat → Nat) (V0 : Nat → Nat → Int) (s0 : Option Addr) (c0 : Nat) (k : Int) (w : World) (h0 : 0 ≤ k) (h1 : k ≤ 1048576) (g0 : ((n0 : Int) + (suK K0 n0 : Int)) ≤ k) (HR0 : Hid (RowPer w s0 n0 X0 Y0 K0 V0)) : Calls Try.prog 10 #[.agg #[.slice s0 n0 c0], .int .i64 k] w fun e w' => e = .returned (.int .i64 (k - ((n0 : Int) + (suK K0 n0 : Int)))) ∧ Below w.heap.size w w' := by
  go_enter Try.func10, Try.ntmps10
  have bz : decide (k - ((n0 : Int) + (suK K0 n0 : Int)) < 0) = false := decide_eq_false (by omega)
  go_wp2_with fail
  refine (szPermitS_on _ n0 _ X0 Y0 K0 V0 _ _ (by omega) (by omega) g0 (HR0.out.below (by repeat (first | with_reducible exact Below.refl _ _ | with_reducible refine Below.setCell ?_ (by first | omega | (simp; done) | (simp; omega)) _ | with_reducible refine bDrewN ?_ _ | with_reducible refine Below.drew ?_ | with_reducible refine Below.alloc ?_ (by first | omega | (simp; done) | (simp; omega)) _)))).mono ?_
  rintro e w1 ⟨rfl, hz⟩
  have B1 : Below w.heap.size w w1 := Below.trans (by repeat (first | with_reducible exact Below.refl _ _ | with_reducible refine Below.setCell ?_ (by first | omega | (simp; done) | (simp; omega)) _ | with_reducible refine bDrewN ?_ _ | with_reducible refine Below.drew ?_ | with_reducible refine Below.alloc ?_ (by first | omega | (simp; done) | (simp; omega)) _)) (hz.mono (by first | omega | (simp; done) | (simp; omega)))
  clear hz
  have ez : k - (n0 : Int) - (suK K0 n0 : Int) = k - ((n0 : Int) + (suK K0 n0 : Int)) := by omega
  rw [ez]
  go_wp2
  go_ret
  exact ⟨rfl, (by repeat (first | with_reducible exact Below.refl _ _ | with_reducible exact B1 | with_reducible refine Below.setCell ?_ (by first | omega | (simp; done) | (simp; omega)) _ | with_reducible refine bDrewN ?_ _ | with_reducible refine Below.drew ?_ | with_reducible refine Below.alloc ?_ (by first | omega | (simp; done) | (simp; omega)) _))⟩
set_option maxHeartbeats 800000 in
theorem szBook_off0 (n0 : Nat) (X0 : Nat → Int) (Y0 : Nat → Int) (K0 : Nat → Nat) (V0 : Nat → Nat → Int) (s0 : Option Addr) (c0 : Nat) (k : Int) (w : World) (h0 : 0 ≤ k) (h1 : k ≤ 1048576) (g0 : k < ((n0 : Int) + (suK K0 n0 : Int))) (gg0 : (n0 : Int) ≤ 9223372036854775807) (k630 : ∀ i, i < n0 → (K0 i : Int) ≤ 9223372036854775807) (HR0 : Hid (RowPer w s0 n0 X0 Y0 K0 V0)) : Calls Try.prog 10 #[.agg #[.slice s0 n0 c0], .int .i64 k] w fun e w' => e = .returned (.int .i64 (-1)) ∧ Below w.heap.size w w' := by
  go_enter Try.func10, Try.ntmps10
  go_wp2_with fail
  refine (szPermitS_off _ n0 _ X0 Y0 K0 V0 _ _ (by omega) (by omega) g0 gg0 k630 (HR0.out.below (by repeat (first | with_reducible exact Below.refl _ _ | with_reducible refine Below.setCell ?_ (by first | omega | (simp; done) | (simp; omega)) _ | with_reducible refine bDrewN ?_ _ | with_reducible refine Below.drew ?_ | with_reducible refine Below.alloc ?_ (by first | omega | (simp; done) | (simp; omega)) _)))).mono ?_
  rintro e w1 ⟨rfl, hz⟩
  have B1 : Below w.heap.size w w1 := Below.trans (by repeat (first | with_reducible exact Below.refl _ _ | with_reducible refine Below.setCell ?_ (by first | omega | (simp; done) | (simp; omega)) _ | with_reducible refine bDrewN ?_ _ | with_reducible refine Below.drew ?_ | with_reducible refine Below.alloc ?_ (by first | omega | (simp; done) | (simp; omega)) _)) (hz.mono (by first | omega | (simp; done) | (simp; omega)))
  clear hz
  go_wp2
  go_ret
  exact ⟨rfl, (by repeat (first | with_reducible exact Below.refl _ _ | with_reducible exact B1 | with_reducible refine Below.setCell ?_ (by first | omega | (simp; done) | (simp; omega)) _ | with_reducible refine bDrewN ?_ _ | with_reducible refine Below.drew ?_ | with_reducible refine Below.alloc ?_ (by first | omega | (simp; done) | (simp; omega)) _))⟩
set_option maxHeartbeats 2000000 in
theorem eqBook_r (n0 : Nat) (X0 : Nat → Int) (Y0 : Nat → Int) (K0 : Nat → Nat) (V0 : Nat → Nat → Int) (s0 : Option Addr) (c0 : Nat) (t0 : Option Addr) (e0 : Nat) (w : World) (hn0 : ((n0 : Int) + (suK K0 n0 : Int)) ≤ 1048576) (H1 : Hid (RowBook w s0 n0 X0 Y0 K0 V0)) (H2 : Hid (RowBook w t0 n0 X0 Y0 K0 V0)) :
    Calls Try.prog 17 #[.agg #[.slice s0 n0 c0], .agg #[.slice t0 n0 e0]] w fun e w' => e = .returned (.bool true) ∧ Below w.heap.size w w' := by
  go_enter Try.func17, Try.ntmps17
  go_wp2_with fail
  obtain ⟨wa, hwa⟩ : ∃ x, x = (w.alloc (.cells #[.slice s0 n0 c0] 36)).alloc (.cells #[.slice t0 n0 e0] 36) := ⟨_, rfl⟩
  rw [← hwa]
  have B0 : Below w.heap.size w wa := by rw [hwa]; exact (by repeat (first | with_reducible exact Below.refl _ _ | with_reducible refine Below.setCell ?_ (by first | omega | (simp; done) | (simp; omega)) _ | with_reducible refine bDrewN ?_ _ | with_reducible refine Below.drew ?_ | with_reducible refine Below.alloc ?_ (by first | omega | (simp; done) | (simp; omega)) _))
  have p0 : wa.cell? ⟨w.heap.size, 0, none⟩ = some (.slice s0 n0 c0) := by rw [hwa]; simp [go_sem]
  have q0 : wa.cell? ⟨w.heap.size + 1, 0, none⟩ = some (.slice t0 n0 e0) := by rw [hwa]; simp [go_sem]
  have z : w.heap.size + 1 < wa.heap.size := by rw [hwa]; simp
  have z0 : w.heap.size < wa.heap.size := by omega
  clear hwa
  refine (eqPermitS_r s0 t0 n0 c0 e0 X0 Y0 K0 V0 _ hn0 ((show RowPer w s0 n0 X0 Y0 K0 V0 from H1.out).below B0) ((show RowPer w t0 n0 X0 Y0 K0 V0 from H2.out).below B0)).mono ?_
  rintro e w0 ⟨rfl, h⟩
  replace z := Nat.lt_of_lt_of_le z h.size
  replace z0 := Nat.lt_of_lt_of_le z0 h.size
  replace B0 : Below w.heap.size w w0 := B0.trans (h.mono B0.size)
  clear h
  go_wp2
  go_ret
  exact ⟨rfl, (by repeat (first | with_reducible exact Below.refl _ _ | with_reducible exact B0 | with_reducible refine Below.setCell ?_ (by first | omega | (simp; done) | (simp; omega)) _ | with_reducible refine bDrewN ?_ _ | with_reducible refine Below.drew ?_ | with_reducible refine Below.alloc ?_ (by first | omega | (simp; done) | (simp; omega)) _))⟩
set_option maxHeartbeats 4000000 in
theorem toBook_r (n0 : Nat) (X0 : Nat → Int) (Y0 : Nat → Int) (K0 : Nat → Nat) (V0 : Nat → Nat → Int) (s0 : Option Addr) (c0 : Nat) (w : World) (hn0 : ((n0 : Int) + (suK K0 n0 : Int)) ≤ 1048576) (HR : Hid (RowBook w s0 n0 X0 Y0 K0 V0)) :
    Calls Try.prog 14 #[.agg #[.slice s0 n0 c0]] w fun e w' => ∃ (s0' : Option Addr) (S : Nat → Prop), e = .returned (.agg #[.slice s0' n0 n0]) ∧ (∀ k, S k → w.heap.size ≤ k ∧ k < w'.heap.size) ∧ BookR S w' s0' n0 X0 Y0 K0 V0 ∧ Below w.heap.size w w' := by
  have sto := store_slT
  go_enter Try.func14, Try.ntmps14
  go_wp2_with fail
  obtain ⟨wa, hwa⟩ : ∃ x, x = ((w.alloc (.cells #[.slice s0 n0 c0] 28)).alloc (.cells #[.slice none 0 0] 36)).alloc (.cells #[.slice none 0 0] 36) := ⟨_, rfl⟩
  rw [← hwa]
  have B0 : Below w.heap.size w wa := by rw [hwa]; exact (by repeat (first | with_reducible exact Below.refl _ _ | with_reducible refine Below.setCell ?_ (by first | omega | (simp; done) | (simp; omega)) _ | with_reducible refine bDrewN ?_ _ | with_reducible refine Below.drew ?_ | with_reducible refine Below.alloc ?_ (by first | omega | (simp; done) | (simp; omega)) _))
  have p0 : wa.cell? ⟨w.heap.size, 0, none⟩ = some (.slice s0 n0 c0) := by rw [hwa]; simp [go_sem]
  have r0 : wa.cell? ⟨w.heap.size + 1, 0, none⟩ = some (.slice none 0 0) := by rw [hwa]; simp [go_sem]
  have d0 : wa.cell? ⟨w.heap.size + 1 + 1, 0, none⟩ = some (.slice none 0 0) := by rw [hwa]; simp [go_sem]
  have fr : ∀ o, wa.frozen? ⟨w.heap.size + 1, o, none⟩ = false := by intro o; rw [hwa]; simp [go_sem]
  have fd : ∀ o, wa.frozen? ⟨w.heap.size + 1 + 1, o, none⟩ = false := by intro o; rw [hwa]; simp [go_sem]
  have z2 : w.heap.size + 1 + 1 < wa.heap.size := by rw [hwa]; simp
  have z1 : w.heap.size + 1 < wa.heap.size := by omega
  have z0 : w.heap.size < wa.heap.size := by omega
  clear hwa
  refine (toPermitS_r s0 n0 c0 X0 Y0 K0 V0 _ hn0 ((show RowPer w s0 n0 X0 Y0 K0 V0 from HR.out).below B0)).mono ?_
  rintro e wc0 ⟨s0', S0, rfl, Q, O, h⟩
  have l0 : wa.heap.size ≤ wc0.heap.size := h.size
  have lo0 : w.heap.size + 1 + 1 + 1 ≤ wa.heap.size := z2
  replace p0 := (h.cell (p := ⟨w.heap.size, 0, none⟩) z0).trans p0
  replace r0 := (h.cell (p := ⟨w.heap.size + 1, 0, none⟩) z1).trans r0
  replace d0 := (h.cell (p := ⟨w.heap.size + 1 + 1, 0, none⟩) z2).trans d0
  replace fr : ∀ o, wc0.frozen? ⟨w.heap.size + 1, o, none⟩ = false := fun o => (h.frozen (p := ⟨w.heap.size + 1, o, none⟩) z1).trans (fr o)
  replace fd : ∀ o, wc0.frozen? ⟨w.heap.size + 1 + 1, o, none⟩ = false := fun o => (h.frozen (p := ⟨w.heap.size + 1 + 1, o, none⟩) z2).trans (fd o)
  replace z2 := Nat.lt_of_lt_of_le z2 h.size
  replace z1 := Nat.lt_of_lt_of_le z1 h.size
  replace z0 := Nat.lt_of_lt_of_le z0 h.size
  replace B0 : Below w.heap.size w wc0 := B0.trans (h.mono B0.size)
  have O0 : Hid (PerR S0 wc0 s0' n0 X0 Y0 K0 V0) := O
  have Q0 : Hid (∀ k, S0 k → wa.heap.size ≤ k ∧ k < wc0.heap.size) := Q
  clear h O Q
  go_wp2
  exact bodyPost_ret (v := .agg #[.slice s0' n0 n0]) (by simp [results, Try.results14, go_sem, r0, d0]) rfl ⟨s0', S0, rfl, fun k hk => by have := Q0.out k hk; simp; omega, (show BookR _ _ s0' n0 X0 Y0 K0 V0 from ((O0.out.set (fun q => by have := Q0.out _ q; omega)).set (fun q => by have := Q0.out _ q; omega))), (by repeat (first | with_reducible exact Below.refl _ _ | with_reducible exact B0 | with_reducible refine Below.setCell ?_ (by first | omega | (simp; done) | (simp; omega)) _ | with_reducible refine bDrewN ?_ _ | with_reducible refine Below.drew ?_ | with_reducible refine Below.alloc ?_ (by first | omega | (simp; done) | (simp; omega)) _))⟩
end Go.Proofs.Ytikcfpjfcpbfcaa
