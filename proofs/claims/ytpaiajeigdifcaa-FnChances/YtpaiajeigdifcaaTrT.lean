/-
What is proved: a tree: what the law's own helpers do with one: a copy, its size, whether two are the same, marks.
-/
import Derived.Test.YtpaiajeigdifcaaTn
import Derived.Test.YtpaiajeigdifcaaGaT
namespace Go.Proofs.Ytpaiajeigdifcaa
set_option maxRecDepth 40000
open Go.ChangeShapes Go.WideShapes Go.ChangeAt Go.RowKit
set_option linter.unusedVariables false
set_option linter.unusedSimpArgs false

def RowTree (w : World) (s1 : Option Addr) (n1 : Nat) (X1 : Nat → Int) (K1 : Nat → Nat) (V1 : Nat → Nat → Int) : Prop := RowGat w s1 n1 X1 K1 V1
theorem RowTree.below {w w' : World} {s1 : Option Addr} {n1 : Nat} {X1 : Nat → Int} {K1 : Nat → Nat} {V1 : Nat → Nat → Int} (h : RowTree w s1 n1 X1 K1 V1) (hb : Below w.heap.size w w') : RowTree w' s1 n1 X1 K1 V1 := RowGat.below h hb
def TreeR (S : Nat → Prop) (w : World) (s1 : Option Addr) (n1 : Nat) (X1 : Nat → Int) (K1 : Nat → Nat) (V1 : Nat → Nat → Int) : Prop := GatR S w s1 n1 X1 K1 V1
theorem TreeR.row {S : Nat → Prop} {w : World} {s1 : Option Addr} {n1 : Nat} {X1 : Nat → Int} {K1 : Nat → Nat} {V1 : Nat → Nat → Int} (h : TreeR S w s1 n1 X1 K1 V1) : RowTree w s1 n1 X1 K1 V1 := GatR.row h
theorem TreeR.keep {S : Nat → Prop} {w w' : World} {s1 : Option Addr} {n1 : Nat} {X1 : Nat → Int} {K1 : Nat → Nat} {V1 : Nat → Nat → Int} (h : TreeR S w s1 n1 X1 K1 V1) (hs : w.heap.size ≤ w'.heap.size) (hb : ∀ k, S k → k < w.heap.size → w'.heap[k]? = w.heap[k]?) : TreeR S w' s1 n1 X1 K1 V1 := GatR.keep h hs hb
theorem TreeR.below {S : Nat → Prop} {w w' : World} {s1 : Option Addr} {n1 : Nat} {X1 : Nat → Int} {K1 : Nat → Nat} {V1 : Nat → Nat → Int} (h : TreeR S w s1 n1 X1 K1 V1) (hb : Below w.heap.size w w') : TreeR S w' s1 n1 X1 K1 V1 := h.keep hb.size fun k _ hk => hb.block k hk
set_option maxHeartbeats 800000 in
theorem szTree_on (x0 : Int) (n1 : Nat) (X1 : Nat → Int) (K1 : Nat → Nat) (V1 : Nat → Nat → Int) (s1 : Option Addr) (c1 : Nat) (k : Int) (w : World) (h0 : 0 ≤ k) (h1 : k ≤ 1048576) (g1 : ((n1 : Int) + (suK K1 n1 : Int)) ≤ k) (HR1 : Hid (RowGat w s1 n1 X1 K1 V1)) : Calls Try.prog 26 #[.agg #[.int .i64 x0, .slice s1 n1 c1], .int .i64 k] w fun e w' => e = .returned (.int .i64 (k - ((n1 : Int) + (suK K1 n1 : Int)))) ∧ Below w.heap.size w w' := by
  go_enter Try.func26, Try.ntmps26
  have bz : decide (k - ((n1 : Int) + (suK K1 n1 : Int)) < 0) = false := decide_eq_false (by omega)
  go_wp2_with fail
  refine (szGateS_on _ n1 _ X1 K1 V1 _ _ (by omega) (by omega) g1 (HR1.out.below (by repeat (first | with_reducible exact Below.refl _ _ | with_reducible refine Below.setCell ?_ (by first | omega | (simp; done) | (simp; omega)) _ | with_reducible refine bDrewN ?_ _ | with_reducible refine Below.drew ?_ | with_reducible refine Below.alloc ?_ (by first | omega | (simp; done) | (simp; omega)) _)))).mono ?_
  rintro e w1 ⟨rfl, hz⟩
  have B1 : Below w.heap.size w w1 := Below.trans (by repeat (first | with_reducible exact Below.refl _ _ | with_reducible refine Below.setCell ?_ (by first | omega | (simp; done) | (simp; omega)) _ | with_reducible refine bDrewN ?_ _ | with_reducible refine Below.drew ?_ | with_reducible refine Below.alloc ?_ (by first | omega | (simp; done) | (simp; omega)) _)) (hz.mono (by first | omega | (simp; done) | (simp; omega)))
  clear hz
  have ez : k - (n1 : Int) - (suK K1 n1 : Int) = k - ((n1 : Int) + (suK K1 n1 : Int)) := by omega
  rw [ez]
  go_wp2
  go_ret
  exact ⟨rfl, (by repeat (first | with_reducible exact Below.refl _ _ | with_reducible exact B1 | with_reducible refine Below.setCell ?_ (by first | omega | (simp; done) | (simp; omega)) _ | with_reducible refine bDrewN ?_ _ | with_reducible refine Below.drew ?_ | with_reducible refine Below.alloc ?_ (by first | omega | (simp; done) | (simp; omega)) _))⟩
set_option maxHeartbeats 800000 in
theorem szTree_off1 (x0 : Int) (n1 : Nat) (X1 : Nat → Int) (K1 : Nat → Nat) (V1 : Nat → Nat → Int) (s1 : Option Addr) (c1 : Nat) (k : Int) (w : World) (h0 : 0 ≤ k) (h1 : k ≤ 1048576) (g1 : k < ((n1 : Int) + (suK K1 n1 : Int))) (gg1 : (n1 : Int) ≤ 9223372036854775807) (k631 : ∀ i, i < n1 → (K1 i : Int) ≤ 9223372036854775807) (HR1 : Hid (RowGat w s1 n1 X1 K1 V1)) : Calls Try.prog 26 #[.agg #[.int .i64 x0, .slice s1 n1 c1], .int .i64 k] w fun e w' => e = .returned (.int .i64 (-1)) ∧ Below w.heap.size w w' := by
  go_enter Try.func26, Try.ntmps26
  go_wp2_with fail
  refine (szGateS_off _ n1 _ X1 K1 V1 _ _ (by omega) (by omega) g1 gg1 k631 (HR1.out.below (by repeat (first | with_reducible exact Below.refl _ _ | with_reducible refine Below.setCell ?_ (by first | omega | (simp; done) | (simp; omega)) _ | with_reducible refine bDrewN ?_ _ | with_reducible refine Below.drew ?_ | with_reducible refine Below.alloc ?_ (by first | omega | (simp; done) | (simp; omega)) _)))).mono ?_
  rintro e w1 ⟨rfl, hz⟩
  have B1 : Below w.heap.size w w1 := Below.trans (by repeat (first | with_reducible exact Below.refl _ _ | with_reducible refine Below.setCell ?_ (by first | omega | (simp; done) | (simp; omega)) _ | with_reducible refine bDrewN ?_ _ | with_reducible refine Below.drew ?_ | with_reducible refine Below.alloc ?_ (by first | omega | (simp; done) | (simp; omega)) _)) (hz.mono (by first | omega | (simp; done) | (simp; omega)))
  clear hz
  go_wp2
  go_ret
  exact ⟨rfl, (by repeat (first | with_reducible exact Below.refl _ _ | with_reducible exact B1 | with_reducible refine Below.setCell ?_ (by first | omega | (simp; done) | (simp; omega)) _ | with_reducible refine bDrewN ?_ _ | with_reducible refine Below.drew ?_ | with_reducible refine Below.alloc ?_ (by first | omega | (simp; done) | (simp; omega)) _))⟩
set_option maxHeartbeats 2000000 in
theorem eqTree_r (x0 : Int) (n1 : Nat) (X1 : Nat → Int) (K1 : Nat → Nat) (V1 : Nat → Nat → Int) (s1 : Option Addr) (c1 : Nat) (t1 : Option Addr) (e1 : Nat) (w : World) (hn1 : ((n1 : Int) + (suK K1 n1 : Int)) ≤ 1048576) (H1 : Hid (RowTree w s1 n1 X1 K1 V1)) (H2 : Hid (RowTree w t1 n1 X1 K1 V1)) :
    Calls Try.prog 31 #[.agg #[.int .i64 x0, .slice s1 n1 c1], .agg #[.int .i64 x0, .slice t1 n1 e1]] w fun e w' => e = .returned (.bool true) ∧ Below w.heap.size w w' := by
  go_enter Try.func31, Try.ntmps31
  go_wp2_with fail
  obtain ⟨wa, hwa⟩ : ∃ x, x = (w.alloc (.cells #[.int .i64 x0, .slice s1 n1 c1] 26)).alloc (.cells #[.int .i64 x0, .slice t1 n1 e1] 26) := ⟨_, rfl⟩
  rw [← hwa]
  have B0 : Below w.heap.size w wa := by rw [hwa]; exact (by repeat (first | with_reducible exact Below.refl _ _ | with_reducible refine Below.setCell ?_ (by first | omega | (simp; done) | (simp; omega)) _ | with_reducible refine bDrewN ?_ _ | with_reducible refine Below.drew ?_ | with_reducible refine Below.alloc ?_ (by first | omega | (simp; done) | (simp; omega)) _))
  have p1 : wa.cell? ⟨w.heap.size, 1, none⟩ = some (.slice s1 n1 c1) := by rw [hwa]; simp [go_sem]
  have q1 : wa.cell? ⟨w.heap.size + 1, 1, none⟩ = some (.slice t1 n1 e1) := by rw [hwa]; simp [go_sem]
  have z : w.heap.size + 1 < wa.heap.size := by rw [hwa]; simp
  have z0 : w.heap.size < wa.heap.size := by omega
  clear hwa
  refine (eqGateS_r s1 t1 n1 c1 e1 X1 K1 V1 _ hn1 ((show RowGat w s1 n1 X1 K1 V1 from H1.out).below B0) ((show RowGat w t1 n1 X1 K1 V1 from H2.out).below B0)).mono ?_
  rintro e w0 ⟨rfl, h⟩
  replace z := Nat.lt_of_lt_of_le z h.size
  replace z0 := Nat.lt_of_lt_of_le z0 h.size
  replace B0 : Below w.heap.size w w0 := B0.trans (h.mono B0.size)
  clear h
  go_wp2
  go_ret
  exact ⟨rfl, (by repeat (first | with_reducible exact Below.refl _ _ | with_reducible exact B0 | with_reducible refine Below.setCell ?_ (by first | omega | (simp; done) | (simp; omega)) _ | with_reducible refine bDrewN ?_ _ | with_reducible refine Below.drew ?_ | with_reducible refine Below.alloc ?_ (by first | omega | (simp; done) | (simp; omega)) _))⟩
set_option maxHeartbeats 4000000 in
theorem toTree_r (x0 : Int) (n1 : Nat) (X1 : Nat → Int) (K1 : Nat → Nat) (V1 : Nat → Nat → Int) (s1 : Option Addr) (c1 : Nat) (w : World) (hn1 : ((n1 : Int) + (suK K1 n1 : Int)) ≤ 1048576) (HR : Hid (RowTree w s1 n1 X1 K1 V1)) :
    Calls Try.prog 28 #[.agg #[.int .i64 x0, .slice s1 n1 c1]] w fun e w' => ∃ (s1' : Option Addr) (S : Nat → Prop), e = .returned (.agg #[.int .i64 x0, .slice s1' n1 n1]) ∧ (∀ k, S k → w.heap.size ≤ k ∧ k < w'.heap.size) ∧ TreeR S w' s1' n1 X1 K1 V1 ∧ Below w.heap.size w w' := by
  have sto := store_slT
  go_enter Try.func28, Try.ntmps28
  go_wp2_with fail
  obtain ⟨wa, hwa⟩ : ∃ x, x = ((w.alloc (.cells #[.int .i64 x0, .slice s1 n1 c1] 44)).alloc (.cells #[.int .i64 0, .slice none 0 0] 26)).alloc (.cells #[.int .i64 x0, .slice none 0 0] 26) := ⟨_, rfl⟩
  rw [← hwa]
  have B0 : Below w.heap.size w wa := by rw [hwa]; exact (by repeat (first | with_reducible exact Below.refl _ _ | with_reducible refine Below.setCell ?_ (by first | omega | (simp; done) | (simp; omega)) _ | with_reducible refine bDrewN ?_ _ | with_reducible refine Below.drew ?_ | with_reducible refine Below.alloc ?_ (by first | omega | (simp; done) | (simp; omega)) _))
  have p0 : wa.cell? ⟨w.heap.size, 0, none⟩ = some (.int .i64 x0) := by rw [hwa]; simp [go_sem]
  have r0 : wa.cell? ⟨w.heap.size + 1, 0, none⟩ = some (.int .i64 0) := by rw [hwa]; simp [go_sem]
  have d0 : wa.cell? ⟨w.heap.size + 1 + 1, 0, none⟩ = some (.int .i64 x0) := by rw [hwa]; simp [go_sem]
  have p1 : wa.cell? ⟨w.heap.size, 1, none⟩ = some (.slice s1 n1 c1) := by rw [hwa]; simp [go_sem]
  have r1 : wa.cell? ⟨w.heap.size + 1, 1, none⟩ = some (.slice none 0 0) := by rw [hwa]; simp [go_sem]
  have d1 : wa.cell? ⟨w.heap.size + 1 + 1, 1, none⟩ = some (.slice none 0 0) := by rw [hwa]; simp [go_sem]
  have fr : ∀ o, wa.frozen? ⟨w.heap.size + 1, o, none⟩ = false := by intro o; rw [hwa]; simp [go_sem]
  have fd : ∀ o, wa.frozen? ⟨w.heap.size + 1 + 1, o, none⟩ = false := by intro o; rw [hwa]; simp [go_sem]
  have z2 : w.heap.size + 1 + 1 < wa.heap.size := by rw [hwa]; simp
  have z1 : w.heap.size + 1 < wa.heap.size := by omega
  have z0 : w.heap.size < wa.heap.size := by omega
  clear hwa
  refine (toGateS_r s1 n1 c1 X1 K1 V1 _ hn1 ((show RowGat w s1 n1 X1 K1 V1 from HR.out).below B0)).mono ?_
  rintro e wc0 ⟨s1', S1, rfl, Q, O, h⟩
  have l0 : wa.heap.size ≤ wc0.heap.size := h.size
  have lo0 : w.heap.size + 1 + 1 + 1 ≤ wa.heap.size := z2
  replace p0 := (h.cell (p := ⟨w.heap.size, 0, none⟩) z0).trans p0
  replace r0 := (h.cell (p := ⟨w.heap.size + 1, 0, none⟩) z1).trans r0
  replace d0 := (h.cell (p := ⟨w.heap.size + 1 + 1, 0, none⟩) z2).trans d0
  replace p1 := (h.cell (p := ⟨w.heap.size, 1, none⟩) z0).trans p1
  replace r1 := (h.cell (p := ⟨w.heap.size + 1, 1, none⟩) z1).trans r1
  replace d1 := (h.cell (p := ⟨w.heap.size + 1 + 1, 1, none⟩) z2).trans d1
  replace fr : ∀ o, wc0.frozen? ⟨w.heap.size + 1, o, none⟩ = false := fun o => (h.frozen (p := ⟨w.heap.size + 1, o, none⟩) z1).trans (fr o)
  replace fd : ∀ o, wc0.frozen? ⟨w.heap.size + 1 + 1, o, none⟩ = false := fun o => (h.frozen (p := ⟨w.heap.size + 1 + 1, o, none⟩) z2).trans (fd o)
  replace z2 := Nat.lt_of_lt_of_le z2 h.size
  replace z1 := Nat.lt_of_lt_of_le z1 h.size
  replace z0 := Nat.lt_of_lt_of_le z0 h.size
  replace B0 : Below w.heap.size w wc0 := B0.trans (h.mono B0.size)
  have O1 : Hid (GatR S1 wc0 s1' n1 X1 K1 V1) := O
  have Q1 : Hid (∀ k, S1 k → wa.heap.size ≤ k ∧ k < wc0.heap.size) := Q
  clear h O Q
  go_wp2
  exact bodyPost_ret (v := .agg #[.int .i64 x0, .slice s1' n1 n1]) (by simp [results, Try.results28, go_sem, r0, d0, r1, d1]) rfl ⟨s1', S1, rfl, fun k hk => by have := Q1.out k hk; simp; omega, (show TreeR _ _ s1' n1 X1 K1 V1 from (((O1.out.set (fun q => by have := Q1.out _ q; omega)).set (fun q => by have := Q1.out _ q; omega)).set (fun q => by have := Q1.out _ q; omega))), (by repeat (first | with_reducible exact Below.refl _ _ | with_reducible exact B0 | with_reducible refine Below.setCell ?_ (by first | omega | (simp; done) | (simp; omega)) _ | with_reducible refine bDrewN ?_ _ | with_reducible refine Below.drew ?_ | with_reducible refine Below.alloc ?_ (by first | omega | (simp; done) | (simp; omega)) _))⟩
end Go.Proofs.Ytpaiajeigdifcaa
