/-
What is proved: a scan: what the law's own helpers do with one: a copy, its size, whether two are the same, marks.
-/
import Derived.Test.YtlbbdifmjdpfiaaZdA
import Derived.Test.YtlbbdifmjdpfiaaZdB
import Derived.Test.YtlbbdifmjdpfiaaZdC
namespace Go.Proofs.Ytlbbdifmjdpfiaa
set_option maxRecDepth 40000
open Go.ChangeShapes Go.WideShapes Go.ChangeAt Go.RowKit
set_option linter.unusedVariables false
set_option linter.unusedSimpArgs false

def RowScan (w : World) (s1 : Option Addr) (n1 : Nat) (V1 : Nat → Bool) (s2 : Option Addr) (n2 : Nat) (V2 : Nat → Int) (s3 : Option Addr) (n3 : Nat) (V3 : Nat → Int × Int) : Prop := RowB w s1 n1 V1 ∧ RowI w s2 n2 V2 ∧ RowShelf w s3 n3 V3
theorem RowScan.below {w w' : World} {s1 : Option Addr} {n1 : Nat} {V1 : Nat → Bool} {s2 : Option Addr} {n2 : Nat} {V2 : Nat → Int} {s3 : Option Addr} {n3 : Nat} {V3 : Nat → Int × Int} (h : RowScan w s1 n1 V1 s2 n2 V2 s3 n3 V3) (hb : Below w.heap.size w w') : RowScan w' s1 n1 V1 s2 n2 V2 s3 n3 V3 := ⟨h.1.below hb, h.2.1.below hb, h.2.2.below hb⟩
def ScanR (S : Nat → Prop) (w : World) (s1 : Option Addr) (n1 : Nat) (V1 : Nat → Bool) (s2 : Option Addr) (n2 : Nat) (V2 : Nat → Int) (s3 : Option Addr) (n3 : Nat) (V3 : Nat → Int × Int) : Prop := ∃ S1 S2 S3 : Nat → Prop, (∀ k, S1 k → S k) ∧ (∀ k, S2 k → S k) ∧ (∀ k, S3 k → S k) ∧ (∀ k, S1 k → ¬ S2 k) ∧ (∀ k, S1 k → ¬ S3 k) ∧ (∀ k, S2 k → ¬ S3 k) ∧ BooR S1 w s1 n1 V1 ∧ I64R S2 w s2 n2 V2 ∧ ShelfR S3 w s3 n3 V3
theorem ScanR.row {S : Nat → Prop} {w : World} {s1 : Option Addr} {n1 : Nat} {V1 : Nat → Bool} {s2 : Option Addr} {n2 : Nat} {V2 : Nat → Int} {s3 : Option Addr} {n3 : Nat} {V3 : Nat → Int × Int} (h : ScanR S w s1 n1 V1 s2 n2 V2 s3 n3 V3) : RowScan w s1 n1 V1 s2 n2 V2 s3 n3 V3 := by
  obtain ⟨S1, S2, S3, u1, u2, u3, d0, d1, d2, O1, O2, O3⟩ := h
  exact ⟨O1.row, O2.row, O3.row⟩
theorem ScanR.keep {S : Nat → Prop} {w w' : World} {s1 : Option Addr} {n1 : Nat} {V1 : Nat → Bool} {s2 : Option Addr} {n2 : Nat} {V2 : Nat → Int} {s3 : Option Addr} {n3 : Nat} {V3 : Nat → Int × Int} (h : ScanR S w s1 n1 V1 s2 n2 V2 s3 n3 V3) (hs : w.heap.size ≤ w'.heap.size) (hb : ∀ k, S k → k < w.heap.size → w'.heap[k]? = w.heap[k]?) : ScanR S w' s1 n1 V1 s2 n2 V2 s3 n3 V3 := by
  obtain ⟨S1, S2, S3, u1, u2, u3, d0, d1, d2, O1, O2, O3⟩ := h
  exact ⟨S1, S2, S3, u1, u2, u3, d0, d1, d2, O1.keep hs (fun k hk => hb k (u1 k hk)), O2.keep hs (fun k hk => hb k (u2 k hk)), O3.keep hs (fun k hk => hb k (u3 k hk))⟩
theorem ScanR.below {S : Nat → Prop} {w w' : World} {s1 : Option Addr} {n1 : Nat} {V1 : Nat → Bool} {s2 : Option Addr} {n2 : Nat} {V2 : Nat → Int} {s3 : Option Addr} {n3 : Nat} {V3 : Nat → Int × Int} (h : ScanR S w s1 n1 V1 s2 n2 V2 s3 n3 V3) (hb : Below w.heap.size w w') : ScanR S w' s1 n1 V1 s2 n2 V2 s3 n3 V3 := h.keep hb.size fun k _ hk => hb.block k hk
set_option maxHeartbeats 800000 in
theorem szScan_on (x0 : Int) (n1 : Nat) (V1 : Nat → Bool) (n2 : Nat) (V2 : Nat → Int) (n3 : Nat) (V3 : Nat → Int × Int) (s1 : Option Addr) (c1 : Nat) (s2 : Option Addr) (c2 : Nat) (s3 : Option Addr) (c3 : Nat) (k : Int) (w : World) (h0 : 0 ≤ k) (h1 : k ≤ 1048576) (g1 : (n1 : Int) ≤ k) (g2 : (n2 : Int) ≤ k - n1) (g3 : (n3 : Int) ≤ k - n1 - n2) : Calls Try.prog 29 #[.agg #[.int .i64 x0, .slice s1 n1 c1, .slice s2 n2 c2, .slice s3 n3 c3], .int .i64 k] w fun e w' => e = .returned (.int .i64 (k - n1 - n2 - n3)) ∧ Below w.heap.size w w' := by
  go_enter Try.func29, Try.ntmps29
  go_wp2_with fail
  refine (szBoolS_on _ n1 _ _ _ (by omega) (by omega) g1).mono ?_
  rintro e w1 ⟨rfl, rfl⟩
  go_wp2_with fail
  refine (szInt64S_on _ n2 _ _ _ (by omega) (by omega) g2).mono ?_
  rintro e w1 ⟨rfl, rfl⟩
  go_wp2_with fail
  refine (szShelfS_on _ n3 _ _ _ (by omega) (by omega) g3).mono ?_
  rintro e w1 ⟨rfl, rfl⟩
  go_wp2
  go_ret
  exact ⟨rfl, (by repeat (first | with_reducible exact Below.refl _ _ | with_reducible refine Below.setCell ?_ (by first | omega | (simp; done) | (simp; omega)) _ | with_reducible refine bDrewN ?_ _ | with_reducible refine Below.drew ?_ | with_reducible refine Below.alloc ?_ (by first | omega | (simp; done) | (simp; omega)) _))⟩
set_option maxHeartbeats 800000 in
theorem szScan_off1 (x0 : Int) (n1 : Nat) (V1 : Nat → Bool) (n2 : Nat) (V2 : Nat → Int) (n3 : Nat) (V3 : Nat → Int × Int) (s1 : Option Addr) (c1 : Nat) (s2 : Option Addr) (c2 : Nat) (s3 : Option Addr) (c3 : Nat) (k : Int) (w : World) (h0 : 0 ≤ k) (h1 : k ≤ 1048576) (g1 : k < (n1 : Int)) (gg1 : (n1 : Int) ≤ 9223372036854775807) : Calls Try.prog 29 #[.agg #[.int .i64 x0, .slice s1 n1 c1, .slice s2 n2 c2, .slice s3 n3 c3], .int .i64 k] w fun e w' => e = .returned (.int .i64 (-1)) ∧ Below w.heap.size w w' := by
  go_enter Try.func29, Try.ntmps29
  go_wp2_with fail
  refine (szBoolS_off _ n1 _ _ _ (by omega) (by omega) g1 gg1).mono ?_
  rintro e w1 ⟨rfl, rfl⟩
  go_wp2
  go_ret
  exact ⟨rfl, (by repeat (first | with_reducible exact Below.refl _ _ | with_reducible refine Below.setCell ?_ (by first | omega | (simp; done) | (simp; omega)) _ | with_reducible refine bDrewN ?_ _ | with_reducible refine Below.drew ?_ | with_reducible refine Below.alloc ?_ (by first | omega | (simp; done) | (simp; omega)) _))⟩
set_option maxHeartbeats 800000 in
theorem szScan_off2 (x0 : Int) (n1 : Nat) (V1 : Nat → Bool) (n2 : Nat) (V2 : Nat → Int) (n3 : Nat) (V3 : Nat → Int × Int) (s1 : Option Addr) (c1 : Nat) (s2 : Option Addr) (c2 : Nat) (s3 : Option Addr) (c3 : Nat) (k : Int) (w : World) (h0 : 0 ≤ k) (h1 : k ≤ 1048576) (g1 : (n1 : Int) ≤ k) (g2 : k - n1 < (n2 : Int)) (gg2 : (n2 : Int) ≤ 9223372036854775807) : Calls Try.prog 29 #[.agg #[.int .i64 x0, .slice s1 n1 c1, .slice s2 n2 c2, .slice s3 n3 c3], .int .i64 k] w fun e w' => e = .returned (.int .i64 (-1)) ∧ Below w.heap.size w w' := by
  go_enter Try.func29, Try.ntmps29
  go_wp2_with fail
  refine (szBoolS_on _ n1 _ _ _ (by omega) (by omega) g1).mono ?_
  rintro e w1 ⟨rfl, rfl⟩
  go_wp2_with fail
  refine (szInt64S_off _ n2 _ _ _ (by omega) (by omega) g2 gg2).mono ?_
  rintro e w1 ⟨rfl, rfl⟩
  go_wp2
  go_ret
  exact ⟨rfl, (by repeat (first | with_reducible exact Below.refl _ _ | with_reducible refine Below.setCell ?_ (by first | omega | (simp; done) | (simp; omega)) _ | with_reducible refine bDrewN ?_ _ | with_reducible refine Below.drew ?_ | with_reducible refine Below.alloc ?_ (by first | omega | (simp; done) | (simp; omega)) _))⟩
set_option maxHeartbeats 800000 in
theorem szScan_off3 (x0 : Int) (n1 : Nat) (V1 : Nat → Bool) (n2 : Nat) (V2 : Nat → Int) (n3 : Nat) (V3 : Nat → Int × Int) (s1 : Option Addr) (c1 : Nat) (s2 : Option Addr) (c2 : Nat) (s3 : Option Addr) (c3 : Nat) (k : Int) (w : World) (h0 : 0 ≤ k) (h1 : k ≤ 1048576) (g1 : (n1 : Int) ≤ k) (g2 : (n2 : Int) ≤ k - n1) (g3 : k - n1 - n2 < (n3 : Int)) (gg3 : (n3 : Int) ≤ 9223372036854775807) : Calls Try.prog 29 #[.agg #[.int .i64 x0, .slice s1 n1 c1, .slice s2 n2 c2, .slice s3 n3 c3], .int .i64 k] w fun e w' => e = .returned (.int .i64 (-1)) ∧ Below w.heap.size w w' := by
  go_enter Try.func29, Try.ntmps29
  go_wp2_with fail
  refine (szBoolS_on _ n1 _ _ _ (by omega) (by omega) g1).mono ?_
  rintro e w1 ⟨rfl, rfl⟩
  go_wp2_with fail
  refine (szInt64S_on _ n2 _ _ _ (by omega) (by omega) g2).mono ?_
  rintro e w1 ⟨rfl, rfl⟩
  go_wp2_with fail
  refine (szShelfS_off _ n3 _ _ _ (by omega) (by omega) g3 gg3).mono ?_
  rintro e w1 ⟨rfl, rfl⟩
  go_wp2
  go_ret
  exact ⟨rfl, (by repeat (first | with_reducible exact Below.refl _ _ | with_reducible refine Below.setCell ?_ (by first | omega | (simp; done) | (simp; omega)) _ | with_reducible refine bDrewN ?_ _ | with_reducible refine Below.drew ?_ | with_reducible refine Below.alloc ?_ (by first | omega | (simp; done) | (simp; omega)) _))⟩
set_option maxHeartbeats 2000000 in
theorem eqScan_r (x0 : Int) (n1 : Nat) (V1 : Nat → Bool) (n2 : Nat) (V2 : Nat → Int) (n3 : Nat) (V3 : Nat → Int × Int) (s1 : Option Addr) (c1 : Nat) (s2 : Option Addr) (c2 : Nat) (s3 : Option Addr) (c3 : Nat) (t1 : Option Addr) (e1 : Nat) (t2 : Option Addr) (e2 : Nat) (t3 : Option Addr) (e3 : Nat) (w : World) (hn1 : (n1 : Int) ≤ 1048576) (hn2 : (n2 : Int) ≤ 1048576) (hn3 : (n3 : Int) ≤ 1048576) (H1 : Hid (RowScan w s1 n1 V1 s2 n2 V2 s3 n3 V3)) (H2 : Hid (RowScan w t1 n1 V1 t2 n2 V2 t3 n3 V3)) :
    Calls Try.prog 33 #[.agg #[.int .i64 x0, .slice s1 n1 c1, .slice s2 n2 c2, .slice s3 n3 c3], .agg #[.int .i64 x0, .slice t1 n1 e1, .slice t2 n2 e2, .slice t3 n3 e3]] w fun e w' => e = .returned (.bool true) ∧ Below w.heap.size w w' := by
  go_enter Try.func33, Try.ntmps33
  go_wp2_with fail
  obtain ⟨wa, hwa⟩ : ∃ x, x = (w.alloc (.cells #[.int .i64 x0, .slice s1 n1 c1, .slice s2 n2 c2, .slice s3 n3 c3] 39)).alloc (.cells #[.int .i64 x0, .slice t1 n1 e1, .slice t2 n2 e2, .slice t3 n3 e3] 39) := ⟨_, rfl⟩
  rw [← hwa]
  have B0 : Below w.heap.size w wa := by rw [hwa]; exact (by repeat (first | with_reducible exact Below.refl _ _ | with_reducible refine Below.setCell ?_ (by first | omega | (simp; done) | (simp; omega)) _ | with_reducible refine bDrewN ?_ _ | with_reducible refine Below.drew ?_ | with_reducible refine Below.alloc ?_ (by first | omega | (simp; done) | (simp; omega)) _))
  have p1 : wa.cell? ⟨w.heap.size, 1, none⟩ = some (.slice s1 n1 c1) := by rw [hwa]; simp [go_sem]
  have q1 : wa.cell? ⟨w.heap.size + 1, 1, none⟩ = some (.slice t1 n1 e1) := by rw [hwa]; simp [go_sem]
  have p2 : wa.cell? ⟨w.heap.size, 2, none⟩ = some (.slice s2 n2 c2) := by rw [hwa]; simp [go_sem]
  have q2 : wa.cell? ⟨w.heap.size + 1, 2, none⟩ = some (.slice t2 n2 e2) := by rw [hwa]; simp [go_sem]
  have p3 : wa.cell? ⟨w.heap.size, 3, none⟩ = some (.slice s3 n3 c3) := by rw [hwa]; simp [go_sem]
  have q3 : wa.cell? ⟨w.heap.size + 1, 3, none⟩ = some (.slice t3 n3 e3) := by rw [hwa]; simp [go_sem]
  have z : w.heap.size + 1 < wa.heap.size := by rw [hwa]; simp
  have z0 : w.heap.size < wa.heap.size := by omega
  clear hwa
  refine (eqBoolS_any s1 t1 n1 c1 e1 V1 _ hn1 (H1.out.1.below B0) (H2.out.1.below B0)).mono ?_
  rintro e w0 ⟨rfl, h⟩
  replace p2 := (h.cell (p := ⟨w.heap.size, 2, none⟩) z0).trans p2
  replace q2 := (h.cell (p := ⟨w.heap.size + 1, 2, none⟩) z).trans q2
  replace p3 := (h.cell (p := ⟨w.heap.size, 3, none⟩) z0).trans p3
  replace q3 := (h.cell (p := ⟨w.heap.size + 1, 3, none⟩) z).trans q3
  replace z := Nat.lt_of_lt_of_le z h.size
  replace z0 := Nat.lt_of_lt_of_le z0 h.size
  replace B0 : Below w.heap.size w w0 := B0.trans (h.mono B0.size)
  clear h
  go_wp2_with fail
  refine (eqInt64S_any s2 t2 n2 c2 e2 V2 _ hn2 (H1.out.2.1.below B0) (H2.out.2.1.below B0)).mono ?_
  rintro e w1 ⟨rfl, h⟩
  replace p3 := (h.cell (p := ⟨w.heap.size, 3, none⟩) z0).trans p3
  replace q3 := (h.cell (p := ⟨w.heap.size + 1, 3, none⟩) z).trans q3
  replace z := Nat.lt_of_lt_of_le z h.size
  replace z0 := Nat.lt_of_lt_of_le z0 h.size
  replace B0 : Below w.heap.size w w1 := B0.trans (h.mono B0.size)
  clear h
  go_wp2_with fail
  refine (eqShelfS_any s3 t3 n3 c3 e3 V3 _ hn3 (H1.out.2.2.below B0) (H2.out.2.2.below B0)).mono ?_
  rintro e w2 ⟨rfl, h⟩
  replace z := Nat.lt_of_lt_of_le z h.size
  replace z0 := Nat.lt_of_lt_of_le z0 h.size
  replace B0 : Below w.heap.size w w2 := B0.trans (h.mono B0.size)
  clear h
  go_wp2
  go_ret
  exact ⟨rfl, (by repeat (first | with_reducible exact Below.refl _ _ | with_reducible exact B0 | with_reducible refine Below.setCell ?_ (by first | omega | (simp; done) | (simp; omega)) _ | with_reducible refine bDrewN ?_ _ | with_reducible refine Below.drew ?_ | with_reducible refine Below.alloc ?_ (by first | omega | (simp; done) | (simp; omega)) _))⟩
set_option maxHeartbeats 4000000 in
theorem toScan_r (x0 : Int) (n1 : Nat) (V1 : Nat → Bool) (n2 : Nat) (V2 : Nat → Int) (n3 : Nat) (V3 : Nat → Int × Int) (s1 : Option Addr) (c1 : Nat) (s2 : Option Addr) (c2 : Nat) (s3 : Option Addr) (c3 : Nat) (w : World) (hn1 : (n1 : Int) ≤ 1048576) (hn2 : (n2 : Int) ≤ 1048576) (hn3 : (n3 : Int) ≤ 1048576) (HR : Hid (RowScan w s1 n1 V1 s2 n2 V2 s3 n3 V3)) :
    Calls Try.prog 31 #[.agg #[.int .i64 x0, .slice s1 n1 c1, .slice s2 n2 c2, .slice s3 n3 c3]] w fun e w' => ∃ (s1' : Option Addr) (s2' : Option Addr) (s3' : Option Addr) (S : Nat → Prop), e = .returned (.agg #[.int .i64 x0, .slice s1' n1 n1, .slice s2' n2 n2, .slice s3' n3 n3]) ∧ (∀ k, S k → w.heap.size ≤ k ∧ k < w'.heap.size) ∧ ScanR S w' s1' n1 V1 s2' n2 V2 s3' n3 V3 ∧ Below w.heap.size w w' := by
  have sto := store_slT
  go_enter Try.func31, Try.ntmps31
  go_wp2_with fail
  obtain ⟨wa, hwa⟩ : ∃ x, x = ((w.alloc (.cells #[.int .i64 x0, .slice s1 n1 c1, .slice s2 n2 c2, .slice s3 n3 c3] 62)).alloc (.cells #[.int .i64 0, .slice none 0 0, .slice none 0 0, .slice none 0 0] 39)).alloc (.cells #[.int .i64 x0, .slice none 0 0, .slice none 0 0, .slice none 0 0] 39) := ⟨_, rfl⟩
  rw [← hwa]
  have B0 : Below w.heap.size w wa := by rw [hwa]; exact (by repeat (first | with_reducible exact Below.refl _ _ | with_reducible refine Below.setCell ?_ (by first | omega | (simp; done) | (simp; omega)) _ | with_reducible refine bDrewN ?_ _ | with_reducible refine Below.drew ?_ | with_reducible refine Below.alloc ?_ (by first | omega | (simp; done) | (simp; omega)) _))
  have p0 : wa.cell? ⟨w.heap.size, 0, none⟩ = some (.int .i64 x0) := by rw [hwa]; simp [go_sem]
  have r0 : wa.cell? ⟨w.heap.size + 1, 0, none⟩ = some (.int .i64 0) := by rw [hwa]; simp [go_sem]
  have d0 : wa.cell? ⟨w.heap.size + 1 + 1, 0, none⟩ = some (.int .i64 x0) := by rw [hwa]; simp [go_sem]
  have p1 : wa.cell? ⟨w.heap.size, 1, none⟩ = some (.slice s1 n1 c1) := by rw [hwa]; simp [go_sem]
  have r1 : wa.cell? ⟨w.heap.size + 1, 1, none⟩ = some (.slice none 0 0) := by rw [hwa]; simp [go_sem]
  have d1 : wa.cell? ⟨w.heap.size + 1 + 1, 1, none⟩ = some (.slice none 0 0) := by rw [hwa]; simp [go_sem]
  have p2 : wa.cell? ⟨w.heap.size, 2, none⟩ = some (.slice s2 n2 c2) := by rw [hwa]; simp [go_sem]
  have r2 : wa.cell? ⟨w.heap.size + 1, 2, none⟩ = some (.slice none 0 0) := by rw [hwa]; simp [go_sem]
  have d2 : wa.cell? ⟨w.heap.size + 1 + 1, 2, none⟩ = some (.slice none 0 0) := by rw [hwa]; simp [go_sem]
  have p3 : wa.cell? ⟨w.heap.size, 3, none⟩ = some (.slice s3 n3 c3) := by rw [hwa]; simp [go_sem]
  have r3 : wa.cell? ⟨w.heap.size + 1, 3, none⟩ = some (.slice none 0 0) := by rw [hwa]; simp [go_sem]
  have d3 : wa.cell? ⟨w.heap.size + 1 + 1, 3, none⟩ = some (.slice none 0 0) := by rw [hwa]; simp [go_sem]
  have fr : ∀ o, wa.frozen? ⟨w.heap.size + 1, o, none⟩ = false := by intro o; rw [hwa]; simp [go_sem]
  have fd : ∀ o, wa.frozen? ⟨w.heap.size + 1 + 1, o, none⟩ = false := by intro o; rw [hwa]; simp [go_sem]
  have z2 : w.heap.size + 1 + 1 < wa.heap.size := by rw [hwa]; simp
  have z1 : w.heap.size + 1 < wa.heap.size := by omega
  have z0 : w.heap.size < wa.heap.size := by omega
  clear hwa
  refine (toBoolS_r s1 n1 c1 V1 _ hn1 (HR.out.1.below B0)).mono ?_
  rintro e wc0 ⟨s1', S1, rfl, Q, O, h⟩
  have l0 : wa.heap.size ≤ wc0.heap.size := h.size
  have lo0 : w.heap.size + 1 + 1 + 1 ≤ wa.heap.size := z2
  replace p0 := (h.cell (p := ⟨w.heap.size, 0, none⟩) z0).trans p0
  replace r0 := (h.cell (p := ⟨w.heap.size + 1, 0, none⟩) z1).trans r0
  replace d0 := (h.cell (p := ⟨w.heap.size + 1 + 1, 0, none⟩) z2).trans d0
  replace p1 := (h.cell (p := ⟨w.heap.size, 1, none⟩) z0).trans p1
  replace r1 := (h.cell (p := ⟨w.heap.size + 1, 1, none⟩) z1).trans r1
  replace d1 := (h.cell (p := ⟨w.heap.size + 1 + 1, 1, none⟩) z2).trans d1
  replace p2 := (h.cell (p := ⟨w.heap.size, 2, none⟩) z0).trans p2
  replace r2 := (h.cell (p := ⟨w.heap.size + 1, 2, none⟩) z1).trans r2
  replace d2 := (h.cell (p := ⟨w.heap.size + 1 + 1, 2, none⟩) z2).trans d2
  replace p3 := (h.cell (p := ⟨w.heap.size, 3, none⟩) z0).trans p3
  replace r3 := (h.cell (p := ⟨w.heap.size + 1, 3, none⟩) z1).trans r3
  replace d3 := (h.cell (p := ⟨w.heap.size + 1 + 1, 3, none⟩) z2).trans d3
  replace fr : ∀ o, wc0.frozen? ⟨w.heap.size + 1, o, none⟩ = false := fun o => (h.frozen (p := ⟨w.heap.size + 1, o, none⟩) z1).trans (fr o)
  replace fd : ∀ o, wc0.frozen? ⟨w.heap.size + 1 + 1, o, none⟩ = false := fun o => (h.frozen (p := ⟨w.heap.size + 1 + 1, o, none⟩) z2).trans (fd o)
  replace z2 := Nat.lt_of_lt_of_le z2 h.size
  replace z1 := Nat.lt_of_lt_of_le z1 h.size
  replace z0 := Nat.lt_of_lt_of_le z0 h.size
  replace B0 : Below w.heap.size w wc0 := B0.trans (h.mono B0.size)
  have O1 : Hid (BooR S1 wc0 s1' n1 V1) := O
  have Q1 : Hid (∀ k, S1 k → wa.heap.size ≤ k ∧ k < wc0.heap.size) := Q
  clear h O Q
  go_wp2_with fail
  obtain ⟨wb1, hwb⟩ : ∃ x, x = wc0.setCell ⟨w.heap.size + 1 + 1, 1, none⟩ (.slice s1' n1 n1) := ⟨_, rfl⟩
  rw [← hwb]
  replace p0 : wb1.cell? ⟨w.heap.size, 0, none⟩ = some (.int .i64 x0) := by rw [hwb]; simp [go_sem, p0]
  replace r0 : wb1.cell? ⟨w.heap.size + 1, 0, none⟩ = some (.int .i64 0) := by rw [hwb]; simp [go_sem, r0]
  replace p1 : wb1.cell? ⟨w.heap.size, 1, none⟩ = some (.slice s1 n1 c1) := by rw [hwb]; simp [go_sem, p1]
  replace r1 : wb1.cell? ⟨w.heap.size + 1, 1, none⟩ = some (.slice none 0 0) := by rw [hwb]; simp [go_sem, r1]
  replace p2 : wb1.cell? ⟨w.heap.size, 2, none⟩ = some (.slice s2 n2 c2) := by rw [hwb]; simp [go_sem, p2]
  replace r2 : wb1.cell? ⟨w.heap.size + 1, 2, none⟩ = some (.slice none 0 0) := by rw [hwb]; simp [go_sem, r2]
  replace p3 : wb1.cell? ⟨w.heap.size, 3, none⟩ = some (.slice s3 n3 c3) := by rw [hwb]; simp [go_sem, p3]
  replace r3 : wb1.cell? ⟨w.heap.size + 1, 3, none⟩ = some (.slice none 0 0) := by rw [hwb]; simp [go_sem, r3]
  replace d0 : wb1.cell? ⟨w.heap.size + 1 + 1, 0, none⟩ = some (.int .i64 x0) := by rw [hwb]; simp [go_sem, d0]
  replace d1 : wb1.cell? ⟨w.heap.size + 1 + 1, 1, none⟩ = some (.slice s1' n1 n1) := by rw [hwb]; simp [go_sem, d1]
  replace d2 : wb1.cell? ⟨w.heap.size + 1 + 1, 2, none⟩ = some (.slice none 0 0) := by rw [hwb]; simp [go_sem, d2]
  replace d3 : wb1.cell? ⟨w.heap.size + 1 + 1, 3, none⟩ = some (.slice none 0 0) := by rw [hwb]; simp [go_sem, d3]
  replace fr : ∀ o, wb1.frozen? ⟨w.heap.size + 1, o, none⟩ = false := by intro o; rw [hwb]; simp [go_sem, fr]
  replace fd : ∀ o, wb1.frozen? ⟨w.heap.size + 1 + 1, o, none⟩ = false := by intro o; rw [hwb]; simp [go_sem, fd]
  replace z2 : w.heap.size + 1 + 1 < wb1.heap.size := by rw [hwb]; simpa using z2
  replace z1 : w.heap.size + 1 < wb1.heap.size := by omega
  replace z0 : w.heap.size < wb1.heap.size := by omega
  have sz1 : wb1.heap.size = wc0.heap.size := by rw [hwb]; simp
  replace O1 : Hid (BooR S1 wb1 s1' n1 V1) := by rw [hwb]; exact O1.out.set (fun q => by have := Q1.out _ q; omega)
  have BB : Below w.heap.size w wb1 := by rw [hwb]; exact (by repeat (first | with_reducible exact Below.refl _ _ | with_reducible exact B0 | with_reducible refine Below.setCell ?_ (by first | omega | (simp; done) | (simp; omega)) _ | with_reducible refine bDrewN ?_ _ | with_reducible refine Below.drew ?_ | with_reducible refine Below.alloc ?_ (by first | omega | (simp; done) | (simp; omega)) _))
  clear B0 hwb
  have B0 := BB
  clear BB
  refine (toInt64S_r s2 n2 c2 V2 _ hn2 (HR.out.2.1.below B0)).mono ?_
  rintro e wc1 ⟨s2', S2, rfl, Q, O, h⟩
  have l1 : wb1.heap.size ≤ wc1.heap.size := h.size
  have lo1 : w.heap.size + 1 + 1 + 1 ≤ wb1.heap.size := z2
  replace O1 : Hid (BooR S1 wc1 s1' n1 V1) := O1.out.below h
  replace p0 := (h.cell (p := ⟨w.heap.size, 0, none⟩) z0).trans p0
  replace r0 := (h.cell (p := ⟨w.heap.size + 1, 0, none⟩) z1).trans r0
  replace d0 := (h.cell (p := ⟨w.heap.size + 1 + 1, 0, none⟩) z2).trans d0
  replace p1 := (h.cell (p := ⟨w.heap.size, 1, none⟩) z0).trans p1
  replace r1 := (h.cell (p := ⟨w.heap.size + 1, 1, none⟩) z1).trans r1
  replace d1 := (h.cell (p := ⟨w.heap.size + 1 + 1, 1, none⟩) z2).trans d1
  replace p2 := (h.cell (p := ⟨w.heap.size, 2, none⟩) z0).trans p2
  replace r2 := (h.cell (p := ⟨w.heap.size + 1, 2, none⟩) z1).trans r2
  replace d2 := (h.cell (p := ⟨w.heap.size + 1 + 1, 2, none⟩) z2).trans d2
  replace p3 := (h.cell (p := ⟨w.heap.size, 3, none⟩) z0).trans p3
  replace r3 := (h.cell (p := ⟨w.heap.size + 1, 3, none⟩) z1).trans r3
  replace d3 := (h.cell (p := ⟨w.heap.size + 1 + 1, 3, none⟩) z2).trans d3
  replace fr : ∀ o, wc1.frozen? ⟨w.heap.size + 1, o, none⟩ = false := fun o => (h.frozen (p := ⟨w.heap.size + 1, o, none⟩) z1).trans (fr o)
  replace fd : ∀ o, wc1.frozen? ⟨w.heap.size + 1 + 1, o, none⟩ = false := fun o => (h.frozen (p := ⟨w.heap.size + 1 + 1, o, none⟩) z2).trans (fd o)
  replace z2 := Nat.lt_of_lt_of_le z2 h.size
  replace z1 := Nat.lt_of_lt_of_le z1 h.size
  replace z0 := Nat.lt_of_lt_of_le z0 h.size
  replace B0 : Below w.heap.size w wc1 := B0.trans (h.mono B0.size)
  have O2 : Hid (I64R S2 wc1 s2' n2 V2) := O
  have Q2 : Hid (∀ k, S2 k → wb1.heap.size ≤ k ∧ k < wc1.heap.size) := Q
  clear h O Q
  go_wp2_with fail
  obtain ⟨wb2, hwb⟩ : ∃ x, x = wc1.setCell ⟨w.heap.size + 1 + 1, 2, none⟩ (.slice s2' n2 n2) := ⟨_, rfl⟩
  rw [← hwb]
  replace p0 : wb2.cell? ⟨w.heap.size, 0, none⟩ = some (.int .i64 x0) := by rw [hwb]; simp [go_sem, p0]
  replace r0 : wb2.cell? ⟨w.heap.size + 1, 0, none⟩ = some (.int .i64 0) := by rw [hwb]; simp [go_sem, r0]
  replace p1 : wb2.cell? ⟨w.heap.size, 1, none⟩ = some (.slice s1 n1 c1) := by rw [hwb]; simp [go_sem, p1]
  replace r1 : wb2.cell? ⟨w.heap.size + 1, 1, none⟩ = some (.slice none 0 0) := by rw [hwb]; simp [go_sem, r1]
  replace p2 : wb2.cell? ⟨w.heap.size, 2, none⟩ = some (.slice s2 n2 c2) := by rw [hwb]; simp [go_sem, p2]
  replace r2 : wb2.cell? ⟨w.heap.size + 1, 2, none⟩ = some (.slice none 0 0) := by rw [hwb]; simp [go_sem, r2]
  replace p3 : wb2.cell? ⟨w.heap.size, 3, none⟩ = some (.slice s3 n3 c3) := by rw [hwb]; simp [go_sem, p3]
  replace r3 : wb2.cell? ⟨w.heap.size + 1, 3, none⟩ = some (.slice none 0 0) := by rw [hwb]; simp [go_sem, r3]
  replace d0 : wb2.cell? ⟨w.heap.size + 1 + 1, 0, none⟩ = some (.int .i64 x0) := by rw [hwb]; simp [go_sem, d0]
  replace d1 : wb2.cell? ⟨w.heap.size + 1 + 1, 1, none⟩ = some (.slice s1' n1 n1) := by rw [hwb]; simp [go_sem, d1]
  replace d2 : wb2.cell? ⟨w.heap.size + 1 + 1, 2, none⟩ = some (.slice s2' n2 n2) := by rw [hwb]; simp [go_sem, d2]
  replace d3 : wb2.cell? ⟨w.heap.size + 1 + 1, 3, none⟩ = some (.slice none 0 0) := by rw [hwb]; simp [go_sem, d3]
  replace fr : ∀ o, wb2.frozen? ⟨w.heap.size + 1, o, none⟩ = false := by intro o; rw [hwb]; simp [go_sem, fr]
  replace fd : ∀ o, wb2.frozen? ⟨w.heap.size + 1 + 1, o, none⟩ = false := by intro o; rw [hwb]; simp [go_sem, fd]
  replace z2 : w.heap.size + 1 + 1 < wb2.heap.size := by rw [hwb]; simpa using z2
  replace z1 : w.heap.size + 1 < wb2.heap.size := by omega
  replace z0 : w.heap.size < wb2.heap.size := by omega
  have sz2 : wb2.heap.size = wc1.heap.size := by rw [hwb]; simp
  replace O1 : Hid (BooR S1 wb2 s1' n1 V1) := by rw [hwb]; exact O1.out.set (fun q => by have := Q1.out _ q; omega)
  replace O2 : Hid (I64R S2 wb2 s2' n2 V2) := by rw [hwb]; exact O2.out.set (fun q => by have := Q2.out _ q; omega)
  have BB : Below w.heap.size w wb2 := by rw [hwb]; exact (by repeat (first | with_reducible exact Below.refl _ _ | with_reducible exact B0 | with_reducible refine Below.setCell ?_ (by first | omega | (simp; done) | (simp; omega)) _ | with_reducible refine bDrewN ?_ _ | with_reducible refine Below.drew ?_ | with_reducible refine Below.alloc ?_ (by first | omega | (simp; done) | (simp; omega)) _))
  clear B0 hwb
  have B0 := BB
  clear BB
  refine (toShelfS_r s3 n3 c3 V3 _ hn3 (HR.out.2.2.below B0)).mono ?_
  rintro e wc2 ⟨s3', S3, rfl, Q, O, h⟩
  have l2 : wb2.heap.size ≤ wc2.heap.size := h.size
  have lo2 : w.heap.size + 1 + 1 + 1 ≤ wb2.heap.size := z2
  replace O1 : Hid (BooR S1 wc2 s1' n1 V1) := O1.out.below h
  replace O2 : Hid (I64R S2 wc2 s2' n2 V2) := O2.out.below h
  replace p0 := (h.cell (p := ⟨w.heap.size, 0, none⟩) z0).trans p0
  replace r0 := (h.cell (p := ⟨w.heap.size + 1, 0, none⟩) z1).trans r0
  replace d0 := (h.cell (p := ⟨w.heap.size + 1 + 1, 0, none⟩) z2).trans d0
  replace p1 := (h.cell (p := ⟨w.heap.size, 1, none⟩) z0).trans p1
  replace r1 := (h.cell (p := ⟨w.heap.size + 1, 1, none⟩) z1).trans r1
  replace d1 := (h.cell (p := ⟨w.heap.size + 1 + 1, 1, none⟩) z2).trans d1
  replace p2 := (h.cell (p := ⟨w.heap.size, 2, none⟩) z0).trans p2
  replace r2 := (h.cell (p := ⟨w.heap.size + 1, 2, none⟩) z1).trans r2
  replace d2 := (h.cell (p := ⟨w.heap.size + 1 + 1, 2, none⟩) z2).trans d2
  replace p3 := (h.cell (p := ⟨w.heap.size, 3, none⟩) z0).trans p3
  replace r3 := (h.cell (p := ⟨w.heap.size + 1, 3, none⟩) z1).trans r3
  replace d3 := (h.cell (p := ⟨w.heap.size + 1 + 1, 3, none⟩) z2).trans d3
  replace fr : ∀ o, wc2.frozen? ⟨w.heap.size + 1, o, none⟩ = false := fun o => (h.frozen (p := ⟨w.heap.size + 1, o, none⟩) z1).trans (fr o)
  replace fd : ∀ o, wc2.frozen? ⟨w.heap.size + 1 + 1, o, none⟩ = false := fun o => (h.frozen (p := ⟨w.heap.size + 1 + 1, o, none⟩) z2).trans (fd o)
  replace z2 := Nat.lt_of_lt_of_le z2 h.size
  replace z1 := Nat.lt_of_lt_of_le z1 h.size
  replace z0 := Nat.lt_of_lt_of_le z0 h.size
  replace B0 : Below w.heap.size w wc2 := B0.trans (h.mono B0.size)
  have O3 : Hid (ShelfR S3 wc2 s3' n3 V3) := O
  have Q3 : Hid (∀ k, S3 k → wb2.heap.size ≤ k ∧ k < wc2.heap.size) := Q
  clear h O Q
  have QA : Hid (∀ k, (fun k => S1 k ∨ S2 k ∨ S3 k) k → w.heap.size + 1 + 1 + 1 ≤ k ∧ k < wc2.heap.size) := fun k hk => by
    rcases hk with hk | hk | hk
    · have := Q1.out k hk; omega
    · have := Q2.out k hk; omega
    · have := Q3.out k hk; omega
  go_wp2
  exact bodyPost_ret (v := .agg #[.int .i64 x0, .slice s1' n1 n1, .slice s2' n2 n2, .slice s3' n3 n3]) (by simp [results, Try.results31, go_sem, r0, d0, r1, d1, r2, d2, r3, d3]) rfl ⟨s1', s2', s3', (fun k => S1 k ∨ S2 k ∨ S3 k), rfl, fun k hk => by have := QA.out k hk; simp; omega, ⟨S1, S2, S3, (fun k q => Or.inl q), (fun k q => Or.inr (Or.inl q)), (fun k q => Or.inr (Or.inr (q))), (fun k q1 q2 => by have a1 := Q1.out k q1; have a2 := Q2.out k q2; omega), (fun k q1 q2 => by have a1 := Q1.out k q1; have a2 := Q3.out k q2; omega), (fun k q1 q2 => by have a1 := Q2.out k q1; have a2 := Q3.out k q2; omega), (((((O1.out.set (fun q => by have := Q1.out _ q; omega)).set (fun q => by have := Q1.out _ q; omega)).set (fun q => by have := Q1.out _ q; omega)).set (fun q => by have := Q1.out _ q; omega)).set (fun q => by have := Q1.out _ q; omega)), (((((O2.out.set (fun q => by have := Q2.out _ q; omega)).set (fun q => by have := Q2.out _ q; omega)).set (fun q => by have := Q2.out _ q; omega)).set (fun q => by have := Q2.out _ q; omega)).set (fun q => by have := Q2.out _ q; omega)), (((((O3.out.set (fun q => by have := Q3.out _ q; omega)).set (fun q => by have := Q3.out _ q; omega)).set (fun q => by have := Q3.out _ q; omega)).set (fun q => by have := Q3.out _ q; omega)).set (fun q => by have := Q3.out _ q; omega))⟩, (by repeat (first | with_reducible exact Below.refl _ _ | with_reducible exact B0 | with_reducible refine Below.setCell ?_ (by first | omega | (simp; done) | (simp; omega)) _ | with_reducible refine bDrewN ?_ _ | with_reducible refine Below.drew ?_ | with_reducible refine Below.alloc ?_ (by first | omega | (simp; done) | (simp; omega)) _))⟩
set_option maxHeartbeats 2000000 in
theorem markScan_r (x0 : Int) (n1 : Nat) (V1 : Nat → Bool) (n2 : Nat) (V2 : Nat → Int) (n3 : Nat) (V3 : Nat → Int × Int) (s1 : Option Addr) (c1 : Nat) (s2 : Option Addr) (c2 : Nat) (s3 : Option Addr) (c3 : Nat) (S : Nat → Prop) (k : Int) (w : World) (hn1 : (n1 : Int) ≤ 1048576) (hn2 : (n2 : Int) ≤ 1048576) (hn3 : (n3 : Int) ≤ 1048576) (k0 : 0 ≤ k) (k1 : k ≤ 40000000) (hS : ∀ q, S q → q < w.heap.size) (HR : Hid (ScanR S w s1 n1 V1 s2 n2 V2 s3 n3 V3)) :
    Calls Try.prog 34 #[.agg #[.int .i64 x0, .slice s1 n1 c1, .slice s2 n2 c2, .slice s3 n3 c3], .int .i64 k] w fun e w' => e = .returned (.int .i64 (k + n1 + n2 + (n3 * 2 : Nat))) ∧ Turn S w w' := by
  obtain ⟨S1, S2, S3, u1, u2, u3, d0, d1, d2, O1, O2, O3⟩ := HR.out
  replace O1 : Hid (BooR S1 w s1 n1 V1) := O1
  replace u1 : Hid (∀ k, S1 k → S k) := u1
  replace O2 : Hid (I64R S2 w s2 n2 V2) := O2
  replace u2 : Hid (∀ k, S2 k → S k) := u2
  replace O3 : Hid (ShelfR S3 w s3 n3 V3) := O3
  replace u3 : Hid (∀ k, S3 k → S k) := u3
  replace d0 : Hid (∀ k, S1 k → ¬ S2 k) := d0
  replace d1 : Hid (∀ k, S1 k → ¬ S3 k) := d1
  replace d2 : Hid (∀ k, S2 k → ¬ S3 k) := d2
  replace hS : Hid (∀ q, S q → q < w.heap.size) := hS
  go_enter Try.func34, Try.ntmps34
  go_wp2_with fail
  obtain ⟨wa, hwa⟩ : ∃ x, x = w.alloc (.cells #[.int .i64 x0, .slice s1 n1 c1, .slice s2 n2 c2, .slice s3 n3 c3] 39) := ⟨_, rfl⟩
  rw [← hwa]
  have B0 : Turn S w wa := by rw [hwa]; exact Turn.grown (by repeat (first | with_reducible exact Below.refl _ _ | with_reducible refine Below.setCell ?_ (by first | omega | (simp; done) | (simp; omega)) _ | with_reducible refine bDrewN ?_ _ | with_reducible refine Below.drew ?_ | with_reducible refine Below.alloc ?_ (by first | omega | (simp; done) | (simp; omega)) _))
  have z0 : w.heap.size < wa.heap.size := by rw [hwa]; simp
  have p1 : wa.cell? ⟨w.heap.size, 1, none⟩ = some (.slice s1 n1 c1) := by rw [hwa]; simp [go_sem]
  replace O1 : Hid (BooR S1 wa s1 n1 V1) := by rw [hwa]; exact O1.out.below (by repeat (first | with_reducible exact Below.refl _ _ | with_reducible refine Below.setCell ?_ (by first | omega | (simp; done) | (simp; omega)) _ | with_reducible refine bDrewN ?_ _ | with_reducible refine Below.drew ?_ | with_reducible refine Below.alloc ?_ (by first | omega | (simp; done) | (simp; omega)) _))
  have p2 : wa.cell? ⟨w.heap.size, 2, none⟩ = some (.slice s2 n2 c2) := by rw [hwa]; simp [go_sem]
  replace O2 : Hid (I64R S2 wa s2 n2 V2) := by rw [hwa]; exact O2.out.below (by repeat (first | with_reducible exact Below.refl _ _ | with_reducible refine Below.setCell ?_ (by first | omega | (simp; done) | (simp; omega)) _ | with_reducible refine bDrewN ?_ _ | with_reducible refine Below.drew ?_ | with_reducible refine Below.alloc ?_ (by first | omega | (simp; done) | (simp; omega)) _))
  have p3 : wa.cell? ⟨w.heap.size, 3, none⟩ = some (.slice s3 n3 c3) := by rw [hwa]; simp [go_sem]
  replace O3 : Hid (ShelfR S3 wa s3 n3 V3) := by rw [hwa]; exact O3.out.below (by repeat (first | with_reducible exact Below.refl _ _ | with_reducible refine Below.setCell ?_ (by first | omega | (simp; done) | (simp; omega)) _ | with_reducible refine bDrewN ?_ _ | with_reducible refine Below.drew ?_ | with_reducible refine Below.alloc ?_ (by first | omega | (simp; done) | (simp; omega)) _))
  clear hwa
  refine (markBoolS_r S1 s1 n1 c1 (k) V1 _ hn1 (by omega) (by omega) O1.out).mono ?_
  rintro e w0 ⟨rfl, -, T⟩
  replace p2 := (T.cell (p := ⟨w.heap.size, 2, none⟩) z0 (fun q => Nat.lt_irrefl _ (hS.out _ (u1.out _ q)))).trans p2
  replace O2 : Hid (I64R S2 w0 s2 n2 V2) := O2.out.keep T.size (fun x hx hl => T.2.2.2.2 x hl (fun q => d0.out x q hx))
  replace p3 := (T.cell (p := ⟨w.heap.size, 3, none⟩) z0 (fun q => Nat.lt_irrefl _ (hS.out _ (u1.out _ q)))).trans p3
  replace O3 : Hid (ShelfR S3 w0 s3 n3 V3) := O3.out.keep T.size (fun x hx hl => T.2.2.2.2 x hl (fun q => d1.out x q hx))
  replace z0 := Nat.lt_of_lt_of_le z0 T.size
  replace B0 : Turn S w w0 := B0.trans (T.mono u1.out)
  clear T
  go_wp2_with fail
  refine (markInt64S_r S2 s2 n2 c2 (k + n1) V2 _ hn2 (by omega) (by omega) O2.out).mono ?_
  rintro e w1 ⟨rfl, -, T⟩
  replace p3 := (T.cell (p := ⟨w.heap.size, 3, none⟩) z0 (fun q => Nat.lt_irrefl _ (hS.out _ (u2.out _ q)))).trans p3
  replace O3 : Hid (ShelfR S3 w1 s3 n3 V3) := O3.out.keep T.size (fun x hx hl => T.2.2.2.2 x hl (fun q => d2.out x q hx))
  replace z0 := Nat.lt_of_lt_of_le z0 T.size
  replace B0 : Turn S w w1 := B0.trans (T.mono u2.out)
  clear T
  go_wp2_with fail
  refine (markShelfS_r S3 s3 n3 c3 (k + n1 + n2) V3 _ hn3 (by omega) (by omega) O3.out).mono ?_
  rintro e w2 ⟨rfl, -, T⟩
  replace z0 := Nat.lt_of_lt_of_le z0 T.size
  replace B0 : Turn S w w2 := B0.trans (T.mono u3.out)
  clear T
  go_wp2
  go_ret
  exact ⟨rfl, B0⟩
end Go.Proofs.Ytlbbdifmjdpfiaa
