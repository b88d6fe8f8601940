/-
What is proved: a net: what the law's own helpers do with one: a copy, its size, whether two are the same, marks.
-/
import Derived.Test.YtikcfpjfcpbfcaaZcA
import Derived.Test.YtikcfpjfcpbfcaaI64R2z
import Derived.Test.YtikcfpjfcpbfcaaSzIz
namespace Go.Proofs.Ytikcfpjfcpbfcaa
set_option maxRecDepth 40000
open Go.ChangeShapes Go.WideShapes Go.ChangeAt Go.RowKit
set_option linter.unusedVariables false
set_option linter.unusedSimpArgs false

def RowNet (w : World) (s1 : Option Addr) (n1 : Nat) (V1 : Nat → Int × Int) (s2 : Option Addr) (n2 : Nat) (V2 : Nat → Int) : Prop := RowDuct w s1 n1 V1 ∧ RowI w s2 n2 V2
theorem RowNet.below {w w' : World} {s1 : Option Addr} {n1 : Nat} {V1 : Nat → Int × Int} {s2 : Option Addr} {n2 : Nat} {V2 : Nat → Int} (h : RowNet w s1 n1 V1 s2 n2 V2) (hb : Below w.heap.size w w') : RowNet w' s1 n1 V1 s2 n2 V2 := ⟨h.1.below hb, h.2.below hb⟩
def NetR (S : Nat → Prop) (w : World) (s1 : Option Addr) (n1 : Nat) (V1 : Nat → Int × Int) (s2 : Option Addr) (n2 : Nat) (V2 : Nat → Int) : Prop := ∃ S1 S2 : Nat → Prop, (∀ k, S1 k → S k) ∧ (∀ k, S2 k → S k) ∧ (∀ k, S1 k → ¬ S2 k) ∧ DuctR S1 w s1 n1 V1 ∧ I64R S2 w s2 n2 V2
theorem NetR.row {S : Nat → Prop} {w : World} {s1 : Option Addr} {n1 : Nat} {V1 : Nat → Int × Int} {s2 : Option Addr} {n2 : Nat} {V2 : Nat → Int} (h : NetR S w s1 n1 V1 s2 n2 V2) : RowNet w s1 n1 V1 s2 n2 V2 := by
  obtain ⟨S1, S2, u1, u2, d0, O1, O2⟩ := h
  exact ⟨O1.row, O2.row⟩
theorem NetR.keep {S : Nat → Prop} {w w' : World} {s1 : Option Addr} {n1 : Nat} {V1 : Nat → Int × Int} {s2 : Option Addr} {n2 : Nat} {V2 : Nat → Int} (h : NetR S w s1 n1 V1 s2 n2 V2) (hs : w.heap.size ≤ w'.heap.size) (hb : ∀ k, S k → k < w.heap.size → w'.heap[k]? = w.heap[k]?) : NetR S w' s1 n1 V1 s2 n2 V2 := by
  obtain ⟨S1, S2, u1, u2, d0, O1, O2⟩ := h
  exact ⟨S1, S2, u1, u2, d0, O1.keep hs (fun k hk => hb k (u1 k hk)), O2.keep hs (fun k hk => hb k (u2 k hk))⟩
theorem NetR.below {S : Nat → Prop} {w w' : World} {s1 : Option Addr} {n1 : Nat} {V1 : Nat → Int × Int} {s2 : Option Addr} {n2 : Nat} {V2 : Nat → Int} (h : NetR S w s1 n1 V1 s2 n2 V2) (hb : Below w.heap.size w w') : NetR S w' s1 n1 V1 s2 n2 V2 := h.keep hb.size fun k _ hk => hb.block k hk
set_option maxHeartbeats 800000 in
theorem szNet_on (x0 : Int) (n1 : Nat) (V1 : Nat → Int × Int) (n2 : Nat) (V2 : Nat → Int) (s1 : Option Addr) (c1 : Nat) (s2 : Option Addr) (c2 : Nat) (k : Int) (w : World) (h0 : 0 ≤ k) (h1 : k ≤ 1048576) (g1 : (n1 : Int) ≤ k) (g2 : (n2 : Int) ≤ k - n1) : Calls Try.prog 9 #[.agg #[.int .i64 x0, .slice s1 n1 c1, .slice s2 n2 c2], .int .i64 k] w fun e w' => e = .returned (.int .i64 (k - n1 - n2)) ∧ Below w.heap.size w w' := by
  go_enter Try.func9, Try.ntmps9
  go_wp2_with fail
  refine (szDuctS_on _ n1 _ _ _ (by omega) (by omega) g1).mono ?_
  rintro e w1 ⟨rfl, rfl⟩
  go_wp2_with fail
  refine (szInt64S_on _ n2 _ _ _ (by omega) (by omega) g2).mono ?_
  rintro e w1 ⟨rfl, rfl⟩
  go_wp2
  go_ret
  exact ⟨rfl, (by repeat (first | with_reducible exact Below.refl _ _ | with_reducible refine Below.setCell ?_ (by first | omega | (simp; done) | (simp; omega)) _ | with_reducible refine bDrewN ?_ _ | with_reducible refine Below.drew ?_ | with_reducible refine Below.alloc ?_ (by first | omega | (simp; done) | (simp; omega)) _))⟩
set_option maxHeartbeats 800000 in
theorem szNet_off1 (x0 : Int) (n1 : Nat) (V1 : Nat → Int × Int) (n2 : Nat) (V2 : Nat → Int) (s1 : Option Addr) (c1 : Nat) (s2 : Option Addr) (c2 : Nat) (k : Int) (w : World) (h0 : 0 ≤ k) (h1 : k ≤ 1048576) (g1 : k < (n1 : Int)) (gg1 : (n1 : Int) ≤ 9223372036854775807) : Calls Try.prog 9 #[.agg #[.int .i64 x0, .slice s1 n1 c1, .slice s2 n2 c2], .int .i64 k] w fun e w' => e = .returned (.int .i64 (-1)) ∧ Below w.heap.size w w' := by
  go_enter Try.func9, Try.ntmps9
  go_wp2_with fail
  refine (szDuctS_off _ n1 _ _ _ (by omega) (by omega) g1 gg1).mono ?_
  rintro e w1 ⟨rfl, rfl⟩
  go_wp2
  go_ret
  exact ⟨rfl, (by repeat (first | with_reducible exact Below.refl _ _ | with_reducible refine Below.setCell ?_ (by first | omega | (simp; done) | (simp; omega)) _ | with_reducible refine bDrewN ?_ _ | with_reducible refine Below.drew ?_ | with_reducible refine Below.alloc ?_ (by first | omega | (simp; done) | (simp; omega)) _))⟩
set_option maxHeartbeats 800000 in
theorem szNet_off2 (x0 : Int) (n1 : Nat) (V1 : Nat → Int × Int) (n2 : Nat) (V2 : Nat → Int) (s1 : Option Addr) (c1 : Nat) (s2 : Option Addr) (c2 : Nat) (k : Int) (w : World) (h0 : 0 ≤ k) (h1 : k ≤ 1048576) (g1 : (n1 : Int) ≤ k) (g2 : k - n1 < (n2 : Int)) (gg2 : (n2 : Int) ≤ 9223372036854775807) : Calls Try.prog 9 #[.agg #[.int .i64 x0, .slice s1 n1 c1, .slice s2 n2 c2], .int .i64 k] w fun e w' => e = .returned (.int .i64 (-1)) ∧ Below w.heap.size w w' := by
  go_enter Try.func9, Try.ntmps9
  go_wp2_with fail
  refine (szDuctS_on _ n1 _ _ _ (by omega) (by omega) g1).mono ?_
  rintro e w1 ⟨rfl, rfl⟩
  go_wp2_with fail
  refine (szInt64S_off _ n2 _ _ _ (by omega) (by omega) g2 gg2).mono ?_
  rintro e w1 ⟨rfl, rfl⟩
  go_wp2
  go_ret
  exact ⟨rfl, (by repeat (first | with_reducible exact Below.refl _ _ | with_reducible refine Below.setCell ?_ (by first | omega | (simp; done) | (simp; omega)) _ | with_reducible refine bDrewN ?_ _ | with_reducible refine Below.drew ?_ | with_reducible refine Below.alloc ?_ (by first | omega | (simp; done) | (simp; omega)) _))⟩
set_option maxHeartbeats 2000000 in
theorem eqNet_r (x0 : Int) (n1 : Nat) (V1 : Nat → Int × Int) (n2 : Nat) (V2 : Nat → Int) (s1 : Option Addr) (c1 : Nat) (s2 : Option Addr) (c2 : Nat) (t1 : Option Addr) (e1 : Nat) (t2 : Option Addr) (e2 : Nat) (w : World) (hn1 : (n1 : Int) ≤ 1048576) (hn2 : (n2 : Int) ≤ 1048576) (H1 : Hid (RowNet w s1 n1 V1 s2 n2 V2)) (H2 : Hid (RowNet w t1 n1 V1 t2 n2 V2)) :
    Calls Try.prog 18 #[.agg #[.int .i64 x0, .slice s1 n1 c1, .slice s2 n2 c2], .agg #[.int .i64 x0, .slice t1 n1 e1, .slice t2 n2 e2]] w fun e w' => e = .returned (.bool true) ∧ Below w.heap.size w w' := by
  go_enter Try.func18, Try.ntmps18
  go_wp2_with fail
  obtain ⟨wa, hwa⟩ : ∃ x, x = (w.alloc (.cells #[.int .i64 x0, .slice s1 n1 c1, .slice s2 n2 c2] 41)).alloc (.cells #[.int .i64 x0, .slice t1 n1 e1, .slice t2 n2 e2] 41) := ⟨_, rfl⟩
  rw [← hwa]
  have B0 : Below w.heap.size w wa := by rw [hwa]; exact (by repeat (first | with_reducible exact Below.refl _ _ | with_reducible refine Below.setCell ?_ (by first | omega | (simp; done) | (simp; omega)) _ | with_reducible refine bDrewN ?_ _ | with_reducible refine Below.drew ?_ | with_reducible refine Below.alloc ?_ (by first | omega | (simp; done) | (simp; omega)) _))
  have p1 : wa.cell? ⟨w.heap.size, 1, none⟩ = some (.slice s1 n1 c1) := by rw [hwa]; simp [go_sem]
  have q1 : wa.cell? ⟨w.heap.size + 1, 1, none⟩ = some (.slice t1 n1 e1) := by rw [hwa]; simp [go_sem]
  have p2 : wa.cell? ⟨w.heap.size, 2, none⟩ = some (.slice s2 n2 c2) := by rw [hwa]; simp [go_sem]
  have q2 : wa.cell? ⟨w.heap.size + 1, 2, none⟩ = some (.slice t2 n2 e2) := by rw [hwa]; simp [go_sem]
  have z : w.heap.size + 1 < wa.heap.size := by rw [hwa]; simp
  have z0 : w.heap.size < wa.heap.size := by omega
  clear hwa
  refine (eqDuctS_any s1 t1 n1 c1 e1 V1 _ hn1 (H1.out.1.below B0) (H2.out.1.below B0)).mono ?_
  rintro e w0 ⟨rfl, h⟩
  replace p2 := (h.cell (p := ⟨w.heap.size, 2, none⟩) z0).trans p2
  replace q2 := (h.cell (p := ⟨w.heap.size + 1, 2, none⟩) z).trans q2
  replace z := Nat.lt_of_lt_of_le z h.size
  replace z0 := Nat.lt_of_lt_of_le z0 h.size
  replace B0 : Below w.heap.size w w0 := B0.trans (h.mono B0.size)
  clear h
  go_wp2_with fail
  refine (eqInt64S_any s2 t2 n2 c2 e2 V2 _ hn2 (H1.out.2.below B0) (H2.out.2.below B0)).mono ?_
  rintro e w1 ⟨rfl, h⟩
  replace z := Nat.lt_of_lt_of_le z h.size
  replace z0 := Nat.lt_of_lt_of_le z0 h.size
  replace B0 : Below w.heap.size w w1 := B0.trans (h.mono B0.size)
  clear h
  go_wp2
  go_ret
  exact ⟨rfl, (by repeat (first | with_reducible exact Below.refl _ _ | with_reducible exact B0 | with_reducible refine Below.setCell ?_ (by first | omega | (simp; done) | (simp; omega)) _ | with_reducible refine bDrewN ?_ _ | with_reducible refine Below.drew ?_ | with_reducible refine Below.alloc ?_ (by first | omega | (simp; done) | (simp; omega)) _))⟩
set_option maxHeartbeats 4000000 in
theorem toNet_r (x0 : Int) (n1 : Nat) (V1 : Nat → Int × Int) (n2 : Nat) (V2 : Nat → Int) (s1 : Option Addr) (c1 : Nat) (s2 : Option Addr) (c2 : Nat) (w : World) (hn1 : (n1 : Int) ≤ 1048576) (hn2 : (n2 : Int) ≤ 1048576) (HR : Hid (RowNet w s1 n1 V1 s2 n2 V2)) :
    Calls Try.prog 13 #[.agg #[.int .i64 x0, .slice s1 n1 c1, .slice s2 n2 c2]] w fun e w' => ∃ (s1' : Option Addr) (s2' : Option Addr) (S : Nat → Prop), e = .returned (.agg #[.int .i64 x0, .slice s1' n1 n1, .slice s2' n2 n2]) ∧ (∀ k, S k → w.heap.size ≤ k ∧ k < w'.heap.size) ∧ NetR S w' s1' n1 V1 s2' n2 V2 ∧ Below w.heap.size w w' := by
  have sto := store_slT
  go_enter Try.func13, Try.ntmps13
  go_wp2_with fail
  obtain ⟨wa, hwa⟩ : ∃ x, x = ((w.alloc (.cells #[.int .i64 x0, .slice s1 n1 c1, .slice s2 n2 c2] 25)).alloc (.cells #[.int .i64 0, .slice none 0 0, .slice none 0 0] 41)).alloc (.cells #[.int .i64 x0, .slice none 0 0, .slice none 0 0] 41) := ⟨_, rfl⟩
  rw [← hwa]
  have B0 : Below w.heap.size w wa := by rw [hwa]; exact (by repeat (first | with_reducible exact Below.refl _ _ | with_reducible refine Below.setCell ?_ (by first | omega | (simp; done) | (simp; omega)) _ | with_reducible refine bDrewN ?_ _ | with_reducible refine Below.drew ?_ | with_reducible refine Below.alloc ?_ (by first | omega | (simp; done) | (simp; omega)) _))
  have p0 : wa.cell? ⟨w.heap.size, 0, none⟩ = some (.int .i64 x0) := by rw [hwa]; simp [go_sem]
  have r0 : wa.cell? ⟨w.heap.size + 1, 0, none⟩ = some (.int .i64 0) := by rw [hwa]; simp [go_sem]
  have d0 : wa.cell? ⟨w.heap.size + 1 + 1, 0, none⟩ = some (.int .i64 x0) := by rw [hwa]; simp [go_sem]
  have p1 : wa.cell? ⟨w.heap.size, 1, none⟩ = some (.slice s1 n1 c1) := by rw [hwa]; simp [go_sem]
  have r1 : wa.cell? ⟨w.heap.size + 1, 1, none⟩ = some (.slice none 0 0) := by rw [hwa]; simp [go_sem]
  have d1 : wa.cell? ⟨w.heap.size + 1 + 1, 1, none⟩ = some (.slice none 0 0) := by rw [hwa]; simp [go_sem]
  have p2 : wa.cell? ⟨w.heap.size, 2, none⟩ = some (.slice s2 n2 c2) := by rw [hwa]; simp [go_sem]
  have r2 : wa.cell? ⟨w.heap.size + 1, 2, none⟩ = some (.slice none 0 0) := by rw [hwa]; simp [go_sem]
  have d2 : wa.cell? ⟨w.heap.size + 1 + 1, 2, none⟩ = some (.slice none 0 0) := by rw [hwa]; simp [go_sem]
  have fr : ∀ o, wa.frozen? ⟨w.heap.size + 1, o, none⟩ = false := by intro o; rw [hwa]; simp [go_sem]
  have fd : ∀ o, wa.frozen? ⟨w.heap.size + 1 + 1, o, none⟩ = false := by intro o; rw [hwa]; simp [go_sem]
  have z2 : w.heap.size + 1 + 1 < wa.heap.size := by rw [hwa]; simp
  have z1 : w.heap.size + 1 < wa.heap.size := by omega
  have z0 : w.heap.size < wa.heap.size := by omega
  clear hwa
  refine (toDuctS_r s1 n1 c1 V1 _ hn1 (HR.out.1.below B0)).mono ?_
  rintro e wc0 ⟨s1', S1, rfl, Q, O, h⟩
  have l0 : wa.heap.size ≤ wc0.heap.size := h.size
  have lo0 : w.heap.size + 1 + 1 + 1 ≤ wa.heap.size := z2
  replace p0 := (h.cell (p := ⟨w.heap.size, 0, none⟩) z0).trans p0
  replace r0 := (h.cell (p := ⟨w.heap.size + 1, 0, none⟩) z1).trans r0
  replace d0 := (h.cell (p := ⟨w.heap.size + 1 + 1, 0, none⟩) z2).trans d0
  replace p1 := (h.cell (p := ⟨w.heap.size, 1, none⟩) z0).trans p1
  replace r1 := (h.cell (p := ⟨w.heap.size + 1, 1, none⟩) z1).trans r1
  replace d1 := (h.cell (p := ⟨w.heap.size + 1 + 1, 1, none⟩) z2).trans d1
  replace p2 := (h.cell (p := ⟨w.heap.size, 2, none⟩) z0).trans p2
  replace r2 := (h.cell (p := ⟨w.heap.size + 1, 2, none⟩) z1).trans r2
  replace d2 := (h.cell (p := ⟨w.heap.size + 1 + 1, 2, none⟩) z2).trans d2
  replace fr : ∀ o, wc0.frozen? ⟨w.heap.size + 1, o, none⟩ = false := fun o => (h.frozen (p := ⟨w.heap.size + 1, o, none⟩) z1).trans (fr o)
  replace fd : ∀ o, wc0.frozen? ⟨w.heap.size + 1 + 1, o, none⟩ = false := fun o => (h.frozen (p := ⟨w.heap.size + 1 + 1, o, none⟩) z2).trans (fd o)
  replace z2 := Nat.lt_of_lt_of_le z2 h.size
  replace z1 := Nat.lt_of_lt_of_le z1 h.size
  replace z0 := Nat.lt_of_lt_of_le z0 h.size
  replace B0 : Below w.heap.size w wc0 := B0.trans (h.mono B0.size)
  have O1 : Hid (DuctR S1 wc0 s1' n1 V1) := O
  have Q1 : Hid (∀ k, S1 k → wa.heap.size ≤ k ∧ k < wc0.heap.size) := Q
  clear h O Q
  go_wp2_with fail
  obtain ⟨wb1, hwb⟩ : ∃ x, x = wc0.setCell ⟨w.heap.size + 1 + 1, 1, none⟩ (.slice s1' n1 n1) := ⟨_, rfl⟩
  rw [← hwb]
  replace p0 : wb1.cell? ⟨w.heap.size, 0, none⟩ = some (.int .i64 x0) := by rw [hwb]; simp [go_sem, p0]
  replace r0 : wb1.cell? ⟨w.heap.size + 1, 0, none⟩ = some (.int .i64 0) := by rw [hwb]; simp [go_sem, r0]
  replace p1 : wb1.cell? ⟨w.heap.size, 1, none⟩ = some (.slice s1 n1 c1) := by rw [hwb]; simp [go_sem, p1]
  replace r1 : wb1.cell? ⟨w.heap.size + 1, 1, none⟩ = some (.slice none 0 0) := by rw [hwb]; simp [go_sem, r1]
  replace p2 : wb1.cell? ⟨w.heap.size, 2, none⟩ = some (.slice s2 n2 c2) := by rw [hwb]; simp [go_sem, p2]
  replace r2 : wb1.cell? ⟨w.heap.size + 1, 2, none⟩ = some (.slice none 0 0) := by rw [hwb]; simp [go_sem, r2]
  replace d0 : wb1.cell? ⟨w.heap.size + 1 + 1, 0, none⟩ = some (.int .i64 x0) := by rw [hwb]; simp [go_sem, d0]
  replace d1 : wb1.cell? ⟨w.heap.size + 1 + 1, 1, none⟩ = some (.slice s1' n1 n1) := by rw [hwb]; simp [go_sem, d1]
  replace d2 : wb1.cell? ⟨w.heap.size + 1 + 1, 2, none⟩ = some (.slice none 0 0) := by rw [hwb]; simp [go_sem, d2]
  replace fr : ∀ o, wb1.frozen? ⟨w.heap.size + 1, o, none⟩ = false := by intro o; rw [hwb]; simp [go_sem, fr]
  replace fd : ∀ o, wb1.frozen? ⟨w.heap.size + 1 + 1, o, none⟩ = false := by intro o; rw [hwb]; simp [go_sem, fd]
  replace z2 : w.heap.size + 1 + 1 < wb1.heap.size := by rw [hwb]; simpa using z2
  replace z1 : w.heap.size + 1 < wb1.heap.size := by omega
  replace z0 : w.heap.size < wb1.heap.size := by omega
  have sz1 : wb1.heap.size = wc0.heap.size := by rw [hwb]; simp
  replace O1 : Hid (DuctR S1 wb1 s1' n1 V1) := by rw [hwb]; exact O1.out.set (fun q => by have := Q1.out _ q; omega)
  have BB : Below w.heap.size w wb1 := by rw [hwb]; exact (by repeat (first | with_reducible exact Below.refl _ _ | with_reducible exact B0 | with_reducible refine Below.setCell ?_ (by first | omega | (simp; done) | (simp; omega)) _ | with_reducible refine bDrewN ?_ _ | with_reducible refine Below.drew ?_ | with_reducible refine Below.alloc ?_ (by first | omega | (simp; done) | (simp; omega)) _))
  clear B0 hwb
  have B0 := BB
  clear BB
  refine (toInt64S_r s2 n2 c2 V2 _ hn2 (HR.out.2.below B0)).mono ?_
  rintro e wc1 ⟨s2', S2, rfl, Q, O, h⟩
  have l1 : wb1.heap.size ≤ wc1.heap.size := h.size
  have lo1 : w.heap.size + 1 + 1 + 1 ≤ wb1.heap.size := z2
  replace O1 : Hid (DuctR S1 wc1 s1' n1 V1) := O1.out.below h
  replace p0 := (h.cell (p := ⟨w.heap.size, 0, none⟩) z0).trans p0
  replace r0 := (h.cell (p := ⟨w.heap.size + 1, 0, none⟩) z1).trans r0
  replace d0 := (h.cell (p := ⟨w.heap.size + 1 + 1, 0, none⟩) z2).trans d0
  replace p1 := (h.cell (p := ⟨w.heap.size, 1, none⟩) z0).trans p1
  replace r1 := (h.cell (p := ⟨w.heap.size + 1, 1, none⟩) z1).trans r1
  replace d1 := (h.cell (p := ⟨w.heap.size + 1 + 1, 1, none⟩) z2).trans d1
  replace p2 := (h.cell (p := ⟨w.heap.size, 2, none⟩) z0).trans p2
  replace r2 := (h.cell (p := ⟨w.heap.size + 1, 2, none⟩) z1).trans r2
  replace d2 := (h.cell (p := ⟨w.heap.size + 1 + 1, 2, none⟩) z2).trans d2
  replace fr : ∀ o, wc1.frozen? ⟨w.heap.size + 1, o, none⟩ = false := fun o => (h.frozen (p := ⟨w.heap.size + 1, o, none⟩) z1).trans (fr o)
  replace fd : ∀ o, wc1.frozen? ⟨w.heap.size + 1 + 1, o, none⟩ = false := fun o => (h.frozen (p := ⟨w.heap.size + 1 + 1, o, none⟩) z2).trans (fd o)
  replace z2 := Nat.lt_of_lt_of_le z2 h.size
  replace z1 := Nat.lt_of_lt_of_le z1 h.size
  replace z0 := Nat.lt_of_lt_of_le z0 h.size
  replace B0 : Below w.heap.size w wc1 := B0.trans (h.mono B0.size)
  have O2 : Hid (I64R S2 wc1 s2' n2 V2) := O
  have Q2 : Hid (∀ k, S2 k → wb1.heap.size ≤ k ∧ k < wc1.heap.size) := Q
  clear h O Q
  have QA : Hid (∀ k, (fun k => S1 k ∨ S2 k) k → w.heap.size + 1 + 1 + 1 ≤ k ∧ k < wc1.heap.size) := fun k hk => by
    rcases hk with hk | hk
    · have := Q1.out k hk; omega
    · have := Q2.out k hk; omega
  go_wp2
  exact bodyPost_ret (v := .agg #[.int .i64 x0, .slice s1' n1 n1, .slice s2' n2 n2]) (by simp [results, Try.results13, go_sem, r0, d0, r1, d1, r2, d2]) rfl ⟨s1', s2', (fun k => S1 k ∨ S2 k), rfl, fun k hk => by have := QA.out k hk; simp; omega, ⟨S1, S2, (fun k q => Or.inl q), (fun k q => Or.inr (q)), (fun k q1 q2 => by have a1 := Q1.out k q1; have a2 := Q2.out k q2; omega), ((((O1.out.set (fun q => by have := Q1.out _ q; omega)).set (fun q => by have := Q1.out _ q; omega)).set (fun q => by have := Q1.out _ q; omega)).set (fun q => by have := Q1.out _ q; omega)), ((((O2.out.set (fun q => by have := Q2.out _ q; omega)).set (fun q => by have := Q2.out _ q; omega)).set (fun q => by have := Q2.out _ q; omega)).set (fun q => by have := Q2.out _ q; omega))⟩, (by repeat (first | with_reducible exact Below.refl _ _ | with_reducible exact B0 | with_reducible refine Below.setCell ?_ (by first | omega | (simp; done) | (simp; omega)) _ | with_reducible refine bDrewN ?_ _ | with_reducible refine Below.drew ?_ | with_reducible refine Below.alloc ?_ (by first | omega | (simp; done) | (simp; omega)) _))⟩
end Go.Proofs.Ytikcfpjfcpbfcaa
