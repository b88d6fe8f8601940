/-
What is proved: a board: what the law's own helpers do with one: a copy, its size, whether two are the same, marks.
-/
import Derived.Test.YtlbbdifmjdpfiaaTn
import Derived.Test.YtlbbdifmjdpfiaaAlR
namespace Go.Proofs.Ytlbbdifmjdpfiaa
set_option maxRecDepth 40000
open Go.ChangeShapes Go.WideShapes Go.ChangeAt Go.RowKit
set_option linter.unusedVariables false
set_option linter.unusedSimpArgs false

def RowBoard (w : World) (s1 : Option Addr) (n1 : Nat) (V1 : Nat → Int × Int × Int × Bool × Int) : Prop := RowAlarm w s1 n1 V1
theorem RowBoard.below {w w' : World} {s1 : Option Addr} {n1 : Nat} {V1 : Nat → Int × Int × Int × Bool × Int} (h : RowBoard w s1 n1 V1) (hb : Below w.heap.size w w') : RowBoard w' s1 n1 V1 := RowAlarm.below h hb
def BoardR (S : Nat → Prop) (w : World) (s1 : Option Addr) (n1 : Nat) (V1 : Nat → Int × Int × Int × Bool × Int) : Prop := AlarmR S w s1 n1 V1
theorem BoardR.row {S : Nat → Prop} {w : World} {s1 : Option Addr} {n1 : Nat} {V1 : Nat → Int × Int × Int × Bool × Int} (h : BoardR S w s1 n1 V1) : RowBoard w s1 n1 V1 := AlarmR.row h
theorem BoardR.keep {S : Nat → Prop} {w w' : World} {s1 : Option Addr} {n1 : Nat} {V1 : Nat → Int × Int × Int × Bool × Int} (h : BoardR S w s1 n1 V1) (hs : w.heap.size ≤ w'.heap.size) (hb : ∀ k, S k → k < w.heap.size → w'.heap[k]? = w.heap[k]?) : BoardR S w' s1 n1 V1 := AlarmR.keep h hs hb
theorem BoardR.below {S : Nat → Prop} {w w' : World} {s1 : Option Addr} {n1 : Nat} {V1 : Nat → Int × Int × Int × Bool × Int} (h : BoardR S w s1 n1 V1) (hb : Below w.heap.size w w') : BoardR S w' s1 n1 V1 := h.keep hb.size fun k _ hk => hb.block k hk
set_option maxHeartbeats 800000 in
theorem szBoard_on (x0 : Int) (n1 : Nat) (V1 : Nat → Int × Int × Int × Bool × Int) (s1 : Option Addr) (c1 : Nat) (k : Int) (w : World) (h0 : 0 ≤ k) (h1 : k ≤ 1048576) (g1 : (n1 : Int) ≤ k) : Calls Try.prog 17 #[.agg #[.int .i64 x0, .slice s1 n1 c1], .int .i64 k] w fun e w' => e = .returned (.int .i64 (k - n1)) ∧ Below w.heap.size w w' := by
  go_enter Try.func17, Try.ntmps17
  go_wp2_with fail
  refine (szAlarmS_on _ n1 _ _ _ (by omega) (by omega) g1).mono ?_
  rintro e w1 ⟨rfl, rfl⟩
  go_wp2
  go_ret
  exact ⟨rfl, (by repeat (first | with_reducible exact Below.refl _ _ | with_reducible refine Below.setCell ?_ (by first | omega | (simp; done) | (simp; omega)) _ | with_reducible refine bDrewN ?_ _ | with_reducible refine Below.drew ?_ | with_reducible refine Below.alloc ?_ (by first | omega | (simp; done) | (simp; omega)) _))⟩
set_option maxHeartbeats 800000 in
theorem szBoard_off1 (x0 : Int) (n1 : Nat) (V1 : Nat → Int × Int × Int × Bool × Int) (s1 : Option Addr) (c1 : Nat) (k : Int) (w : World) (h0 : 0 ≤ k) (h1 : k ≤ 1048576) (g1 : k < (n1 : Int)) (gg1 : (n1 : Int) ≤ 9223372036854775807) : Calls Try.prog 17 #[.agg #[.int .i64 x0, .slice s1 n1 c1], .int .i64 k] w fun e w' => e = .returned (.int .i64 (-1)) ∧ Below w.heap.size w w' := by
  go_enter Try.func17, Try.ntmps17
  go_wp2_with fail
  refine (szAlarmS_off _ n1 _ _ _ (by omega) (by omega) g1 gg1).mono ?_
  rintro e w1 ⟨rfl, rfl⟩
  go_wp2
  go_ret
  exact ⟨rfl, (by repeat (first | with_reducible exact Below.refl _ _ | with_reducible refine Below.setCell ?_ (by first | omega | (simp; done) | (simp; omega)) _ | with_reducible refine bDrewN ?_ _ | with_reducible refine Below.drew ?_ | with_reducible refine Below.alloc ?_ (by first | omega | (simp; done) | (simp; omega)) _))⟩
set_option maxHeartbeats 2000000 in
theorem eqBoard_r (x0 : Int) (n1 : Nat) (V1 : Nat → Int × Int × Int × Bool × Int) (s1 : Option Addr) (c1 : Nat) (t1 : Option Addr) (e1 : Nat) (w : World) (hn1 : (n1 : Int) ≤ 1048576) (H1 : Hid (RowBoard w s1 n1 V1)) (H2 : Hid (RowBoard w t1 n1 V1)) :
    Calls Try.prog 22 #[.agg #[.int .i64 x0, .slice s1 n1 c1], .agg #[.int .i64 x0, .slice t1 n1 e1]] w fun e w' => e = .returned (.bool true) ∧ Below w.heap.size w w' := by
  go_enter Try.func22, Try.ntmps22
  go_wp2_with fail
  obtain ⟨wa, hwa⟩ : ∃ x, x = (w.alloc (.cells #[.int .i64 x0, .slice s1 n1 c1] 26)).alloc (.cells #[.int .i64 x0, .slice t1 n1 e1] 26) := ⟨_, rfl⟩
  rw [← hwa]
  have B0 : Below w.heap.size w wa := by rw [hwa]; exact (by repeat (first | with_reducible exact Below.refl _ _ | with_reducible refine Below.setCell ?_ (by first | omega | (simp; done) | (simp; omega)) _ | with_reducible refine bDrewN ?_ _ | with_reducible refine Below.drew ?_ | with_reducible refine Below.alloc ?_ (by first | omega | (simp; done) | (simp; omega)) _))
  have p1 : wa.cell? ⟨w.heap.size, 1, none⟩ = some (.slice s1 n1 c1) := by rw [hwa]; simp [go_sem]
  have q1 : wa.cell? ⟨w.heap.size + 1, 1, none⟩ = some (.slice t1 n1 e1) := by rw [hwa]; simp [go_sem]
  have z : w.heap.size + 1 < wa.heap.size := by rw [hwa]; simp
  have z0 : w.heap.size < wa.heap.size := by omega
  clear hwa
  refine (eqAlarmS_any s1 t1 n1 c1 e1 V1 _ hn1 ((show RowAlarm w s1 n1 V1 from H1.out).below B0) ((show RowAlarm w t1 n1 V1 from H2.out).below B0)).mono ?_
  rintro e w0 ⟨rfl, h⟩
  replace z := Nat.lt_of_lt_of_le z h.size
  replace z0 := Nat.lt_of_lt_of_le z0 h.size
  replace B0 : Below w.heap.size w w0 := B0.trans (h.mono B0.size)
  clear h
  go_wp2
  go_ret
  exact ⟨rfl, (by repeat (first | with_reducible exact Below.refl _ _ | with_reducible exact B0 | with_reducible refine Below.setCell ?_ (by first | omega | (simp; done) | (simp; omega)) _ | with_reducible refine bDrewN ?_ _ | with_reducible refine Below.drew ?_ | with_reducible refine Below.alloc ?_ (by first | omega | (simp; done) | (simp; omega)) _))⟩
set_option maxHeartbeats 4000000 in
theorem toBoard_r (x0 : Int) (n1 : Nat) (V1 : Nat → Int × Int × Int × Bool × Int) (s1 : Option Addr) (c1 : Nat) (w : World) (hn1 : (n1 : Int) ≤ 1048576) (HR : Hid (RowBoard w s1 n1 V1)) :
    Calls Try.prog 19 #[.agg #[.int .i64 x0, .slice s1 n1 c1]] w fun e w' => ∃ (s1' : Option Addr) (S : Nat → Prop), e = .returned (.agg #[.int .i64 x0, .slice s1' n1 n1]) ∧ (∀ k, S k → w.heap.size ≤ k ∧ k < w'.heap.size) ∧ BoardR S w' s1' n1 V1 ∧ Below w.heap.size w w' := by
  have sto := store_slT
  go_enter Try.func19, Try.ntmps19
  go_wp2_with fail
  obtain ⟨wa, hwa⟩ : ∃ x, x = ((w.alloc (.cells #[.int .i64 x0, .slice s1 n1 c1] 47)).alloc (.cells #[.int .i64 0, .slice none 0 0] 26)).alloc (.cells #[.int .i64 x0, .slice none 0 0] 26) := ⟨_, rfl⟩
  rw [← hwa]
  have B0 : Below w.heap.size w wa := by rw [hwa]; exact (by repeat (first | with_reducible exact Below.refl _ _ | with_reducible refine Below.setCell ?_ (by first | omega | (simp; done) | (simp; omega)) _ | with_reducible refine bDrewN ?_ _ | with_reducible refine Below.drew ?_ | with_reducible refine Below.alloc ?_ (by first | omega | (simp; done) | (simp; omega)) _))
  have p0 : wa.cell? ⟨w.heap.size, 0, none⟩ = some (.int .i64 x0) := by rw [hwa]; simp [go_sem]
  have r0 : wa.cell? ⟨w.heap.size + 1, 0, none⟩ = some (.int .i64 0) := by rw [hwa]; simp [go_sem]
  have d0 : wa.cell? ⟨w.heap.size + 1 + 1, 0, none⟩ = some (.int .i64 x0) := by rw [hwa]; simp [go_sem]
  have p1 : wa.cell? ⟨w.heap.size, 1, none⟩ = some (.slice s1 n1 c1) := by rw [hwa]; simp [go_sem]
  have r1 : wa.cell? ⟨w.heap.size + 1, 1, none⟩ = some (.slice none 0 0) := by rw [hwa]; simp [go_sem]
  have d1 : wa.cell? ⟨w.heap.size + 1 + 1, 1, none⟩ = some (.slice none 0 0) := by rw [hwa]; simp [go_sem]
  have fr : ∀ o, wa.frozen? ⟨w.heap.size + 1, o, none⟩ = false := by intro o; rw [hwa]; simp [go_sem]
  have fd : ∀ o, wa.frozen? ⟨w.heap.size + 1 + 1, o, none⟩ = false := by intro o; rw [hwa]; simp [go_sem]
  have z2 : w.heap.size + 1 + 1 < wa.heap.size := by rw [hwa]; simp
  have z1 : w.heap.size + 1 < wa.heap.size := by omega
  have z0 : w.heap.size < wa.heap.size := by omega
  clear hwa
  refine (toAlarmS_r s1 n1 c1 V1 _ hn1 ((show RowAlarm w s1 n1 V1 from HR.out).below B0)).mono ?_
  rintro e wc0 ⟨s1', S1, rfl, Q, O, h⟩
  have l0 : wa.heap.size ≤ wc0.heap.size := h.size
  have lo0 : w.heap.size + 1 + 1 + 1 ≤ wa.heap.size := z2
  replace p0 := (h.cell (p := ⟨w.heap.size, 0, none⟩) z0).trans p0
  replace r0 := (h.cell (p := ⟨w.heap.size + 1, 0, none⟩) z1).trans r0
  replace d0 := (h.cell (p := ⟨w.heap.size + 1 + 1, 0, none⟩) z2).trans d0
  replace p1 := (h.cell (p := ⟨w.heap.size, 1, none⟩) z0).trans p1
  replace r1 := (h.cell (p := ⟨w.heap.size + 1, 1, none⟩) z1).trans r1
  replace d1 := (h.cell (p := ⟨w.heap.size + 1 + 1, 1, none⟩) z2).trans d1
  replace fr : ∀ o, wc0.frozen? ⟨w.heap.size + 1, o, none⟩ = false := fun o => (h.frozen (p := ⟨w.heap.size + 1, o, none⟩) z1).trans (fr o)
  replace fd : ∀ o, wc0.frozen? ⟨w.heap.size + 1 + 1, o, none⟩ = false := fun o => (h.frozen (p := ⟨w.heap.size + 1 + 1, o, none⟩) z2).trans (fd o)
  replace z2 := Nat.lt_of_lt_of_le z2 h.size
  replace z1 := Nat.lt_of_lt_of_le z1 h.size
  replace z0 := Nat.lt_of_lt_of_le z0 h.size
  replace B0 : Below w.heap.size w wc0 := B0.trans (h.mono B0.size)
  have O1 : Hid (AlarmR S1 wc0 s1' n1 V1) := O
  have Q1 : Hid (∀ k, S1 k → wa.heap.size ≤ k ∧ k < wc0.heap.size) := Q
  clear h O Q
  go_wp2
  exact bodyPost_ret (v := .agg #[.int .i64 x0, .slice s1' n1 n1]) (by simp [results, Try.results19, go_sem, r0, d0, r1, d1]) rfl ⟨s1', S1, rfl, fun k hk => by have := Q1.out k hk; simp; omega, (show BoardR _ _ s1' n1 V1 from (((O1.out.set (fun q => by have := Q1.out _ q; omega)).set (fun q => by have := Q1.out _ q; omega)).set (fun q => by have := Q1.out _ q; omega))), (by repeat (first | with_reducible exact Below.refl _ _ | with_reducible exact B0 | with_reducible refine Below.setCell ?_ (by first | omega | (simp; done) | (simp; omega)) _ | with_reducible refine bDrewN ?_ _ | with_reducible refine Below.drew ?_ | with_reducible refine Below.alloc ?_ (by first | omega | (simp; done) | (simp; omega)) _))⟩
set_option maxHeartbeats 2000000 in
theorem markBoard_r (x0 : Int) (n1 : Nat) (V1 : Nat → Int × Int × Int × Bool × Int) (s1 : Option Addr) (c1 : Nat) (S : Nat → Prop) (k : Int) (w : World) (hn1 : (n1 : Int) ≤ 1048576) (k0 : 0 ≤ k) (k1 : k ≤ 40000000) (hS : ∀ q, S q → q < w.heap.size) (HR : Hid (BoardR S w s1 n1 V1)) :
    Calls Try.prog 24 #[.agg #[.int .i64 x0, .slice s1 n1 c1], .int .i64 k] w fun e w' => e = .returned (.int .i64 (k + (n1 * 5 : Nat))) ∧ Turn S w w' := by
  have O1 : Hid (AlarmR S w s1 n1 V1) := HR
  have u1 : Hid (∀ k, S k → S k) := fun _ h => h
  replace hS : Hid (∀ q, S q → q < w.heap.size) := hS
  go_enter Try.func24, Try.ntmps24
  go_wp2_with fail
  obtain ⟨wa, hwa⟩ : ∃ x, x = w.alloc (.cells #[.int .i64 x0, .slice s1 n1 c1] 26) := ⟨_, rfl⟩
  rw [← hwa]
  have B0 : Turn S w wa := by rw [hwa]; exact Turn.grown (by repeat (first | with_reducible exact Below.refl _ _ | with_reducible refine Below.setCell ?_ (by first | omega | (simp; done) | (simp; omega)) _ | with_reducible refine bDrewN ?_ _ | with_reducible refine Below.drew ?_ | with_reducible refine Below.alloc ?_ (by first | omega | (simp; done) | (simp; omega)) _))
  have z0 : w.heap.size < wa.heap.size := by rw [hwa]; simp
  have p1 : wa.cell? ⟨w.heap.size, 1, none⟩ = some (.slice s1 n1 c1) := by rw [hwa]; simp [go_sem]
  replace O1 : Hid (AlarmR S wa s1 n1 V1) := by rw [hwa]; exact O1.out.below (by repeat (first | with_reducible exact Below.refl _ _ | with_reducible refine Below.setCell ?_ (by first | omega | (simp; done) | (simp; omega)) _ | with_reducible refine bDrewN ?_ _ | with_reducible refine Below.drew ?_ | with_reducible refine Below.alloc ?_ (by first | omega | (simp; done) | (simp; omega)) _))
  clear hwa
  refine (markAlarmS_r S s1 n1 c1 (k) V1 _ hn1 (by omega) (by omega) O1.out).mono ?_
  rintro e w0 ⟨rfl, -, T⟩
  replace z0 := Nat.lt_of_lt_of_le z0 T.size
  replace B0 : Turn S w w0 := B0.trans (T.mono u1.out)
  clear T
  go_wp2
  go_ret
  exact ⟨rfl, B0⟩
end Go.Proofs.Ytlbbdifmjdpfiaa
