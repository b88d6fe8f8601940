/-
What is proved: how far a test is beyond; what impl.testsMisfit finds; the order that the due tests are sorted by.
-/
import Derived.Test.YtfhbkfdfggaomabDoorDtQ
import Derived.Test.YtfhbkfdfggaomabDoorMsF
import Derived.Deep.RegionHeldLaw
import Derived.Deep.RegionHeld3
import Derived.Deep.DeepCutAuto
import Derived.BigQuiet
namespace Go.Proofs.YtfhbkfdfggaomabDoor
set_option maxRecDepth 40000
open Go.ChangeShapes Go.WideShapes Go.ChangeAt Go.RowKit
set_option linter.unusedVariables false
set_option linter.unusedSimpArgs false

def cmpV (a b : Int) : Int := if a < b then -1 else if b < a then 1 else 0
theorem cmp_lt {a b : Int} (h : a < b) : cmpV a b = -1 := by unfold cmpV; rw [if_pos h]
theorem cmp_ge {a b : Int} (h : b ≤ a) : 0 ≤ cmpV a b ∧ cmpV a b ≤ 1 := by
  unfold cmpV
  rw [if_neg (by omega)]
  split <;> omega
theorem cmp_neg (a b : Int) : cmpV a b < 0 ↔ a < b := by
  unfold cmpV
  split
  · omega
  · split <;> omega
set_option maxHeartbeats 400000 in
theorem isNaN_any (a : Int) (w : World) : Calls Tryd.prog 65 #[.int .i64 a] w fun e w' => e = .returned (.bool false) ∧ w' = w := by
  have h : (a != a) = false := bne_self_eq_false a
  go_enter Tryd.func65, Tryd.ntmps65
  go_wp2
  go_ret
  exact ⟨rfl, rfl⟩
set_option maxHeartbeats 800000 in
theorem compare_any (a b : Int) (w : World) : Calls Tryd.prog 39 #[.int .i64 a, .int .i64 b] w fun e w' => e = .returned (.int .i64 (cmpV a b)) ∧ w' = w := by
  go_enter Tryd.func39, Tryd.ntmps39
  go_wp2_with fail
  refine (isNaN_any a _).mono ?_
  rintro e w ⟨rfl, rfl⟩
  go_wp2_with fail
  refine (isNaN_any b _).mono ?_
  rintro e w ⟨rfl, rfl⟩
  by_cases h1 : a < b
  · have HO : Hid (cmpV a b = -1) := cmp_lt h1
    go_wp2
    go_ret
    exact ⟨ret_int HO.out.symm, rfl⟩
  have h1' : decide (a < b) = false := decide_eq_false h1
  by_cases h2 : b < a
  · have HO : Hid (cmpV a b = 1) := by show _ = _; unfold cmpV; rw [if_neg h1, if_pos h2]
    go_wp2
    go_ret
    exact ⟨ret_int HO.out.symm, rfl⟩
  have h2' : decide (b < a) = false := decide_eq_false h2
  have HO : Hid (cmpV a b = 0) := by show _ = _; unfold cmpV; rw [if_neg h1, if_neg h2]
  clear h1 h2
  go_wp2
  go_ret
  exact ⟨ret_int HO.out.symm, rfl⟩
/-- The variable p holds a list of machines with the costs C. -/
def PlAt (w : World) (p g o n c : Nat) (C : Nat → Int) : Prop := p < w.heap.size ∧ g < w.heap.size ∧ w.cell? ⟨p, 0, none⟩ = some (.slice (some ⟨g, o, none⟩) n c) ∧ ∀ i, i < n → w.cell? ⟨g, o + i * 5 + 2, none⟩ = some (.int .i64 (C i))
theorem retMis {v : Value} {b : Bool} {w w' : World} (h : MisV v b) (hb : Below w.heap.size w w') : ∃ x, Ending.returned v = Ending.returned x ∧ MisV x b ∧ Below w.heap.size w w' := ⟨v, rfl, h, hb⟩
theorem beyond_any (a b now : Int) (w : World) (h1 : 0 ≤ now) (h2 : now ≤ 1000000000) (h3 : 1 ≤ a) (h4 : a ≤ 1000000) (h5 : 0 ≤ b) (h6 : b ≤ now) :
    Calls Tryd.prog 36 #[.agg #[.int .i64 a, .int .i64 b], .int .i64 now] w fun e w' => e = .returned (.int .i64 (now - b - a)) ∧ Below w.heap.size w w' := by
  go_enter Tryd.func36, Tryd.ntmps36
  go_wp2
  go_ret
  exact ⟨by first | rfl | (congr 2; omega), (by repeat (first | with_reducible exact Below.refl _ _ | with_reducible refine Below.setCell ?_ (by first | omega | (simp; done) | (simp; omega)) _ | with_reducible refine bDrewN ?_ _ | with_reducible refine Below.drew ?_ | with_reducible refine Below.alloc ?_ (by first | omega | (simp; done) | (simp; omega)) _))⟩
set_option maxRecDepth 20000 in
set_option maxHeartbeats 4000000 in
theorem tests1_any (p q : Nat) (s : Option Addr) (n c : Nat) (V : Nat → Int × Int) (now : Int) (k : Nat) (w : World) (hk : k < n) (hn : (n : Int) ≤ 60) (zp : p < w.heap.size) (zq : q < w.heap.size)
    (cp : w.cell? ⟨p, 0, none⟩ = some (.slice s n c)) (cq : w.cell? ⟨q, 0, none⟩ = some (.int .i64 now)) (HR : Hid (RowTest w s n V)) (HE : Hid (ErrT w)) :
    Calls Tryd.prog 62 #[.int .i64 k, .pointer (some ⟨p, 0, none⟩), .pointer (some ⟨q, 0, none⟩)] w fun e w' => ∃ v, e = .returned v ∧ ErrV v (tstB now (V k)) ∧ Below w.heap.size w w' := by
  obtain ⟨g, o, rfl, zg, c0, c1⟩ := HR.out k hk
  obtain ⟨⟨a, b⟩, hV⟩ : ∃ z, V k = z := ⟨_, rfl⟩
  rw [hV] at c0 c1 ⊢
  simp only at c0 c1
  obtain ⟨-, -, zb, tb, xb, gb⟩ := HE.out
  have k1 : (k : Int) < (n : Int) := by omega
  clear HR HE hV
  go_enter Tryd.func62, Tryd.ntmps62
  go_upto_region 2 with fail
  obtain ⟨wa, hwa⟩ : ∃ wa, wa = w.alloc (.cells #[.int .i64 a, .int .i64 b] 46) := ⟨_, rfl⟩
  rw [← hwa]
  have hb : Below w.heap.size w wa := by rw [hwa]; exact below0 _ _
  have a0 : wa.cell? ⟨w.heap.size, 0, none⟩ = some (.int .i64 a) := by rw [hwa]; simp [go_sem]
  have a1 : wa.cell? ⟨w.heap.size, 1, none⟩ = some (.int .i64 b) := by rw [hwa]; simp [go_sem]
  have za : w.heap.size < wa.heap.size := by rw [hwa]; simp
  have HB : Hid (Below w.heap.size w wa) := hb
  replace cq := (hb.cell (p := ⟨q, 0, none⟩) zq).trans cq
  replace gb := (hb.cell (p := ⟨1, 0, none⟩) zb).trans gb
  replace zq := Nat.lt_of_lt_of_le zq hb.size
  replace zb := Nat.lt_of_lt_of_le zb hb.size
  clear hwa hb cp c0 c1 zg zp
  go_wp2_with fail
  refine (within_is _ _ _ _).mono ?_
  rintro e wa ⟨rfl, rfl⟩
  cases e0 : inB 1 1000000 a
  · have HO : Hid (tstB now (a, b) = false) := by show _ = _; unfold tstB; simp only; rw [e0]; rfl
    have B1 := HB.out
    go_wp2
    go_ret
    exact ⟨_, rfl, Or.inr ⟨HO.out, _, _, rfl⟩, (by repeat (first | with_reducible exact Below.refl _ _ | with_reducible exact B1 | with_reducible refine Below.setCell ?_ (by first | omega | (simp; done) | (simp; omega)) _ | with_reducible refine bDrewN ?_ _ | with_reducible refine Below.drew ?_ | with_reducible refine Below.alloc ?_ (by first | omega | (simp; done) | (simp; omega)) _))⟩
  go_wp2_with fail
  refine (within_is _ _ _ _).mono ?_
  rintro e wa ⟨rfl, rfl⟩
  cases e1 : inB 0 now b
  · have HO : Hid (tstB now (a, b) = false) := by show _ = _; unfold tstB; simp only; rw [e1]; simp
    have B1 := HB.out
    go_wp2
    go_ret
    exact ⟨_, rfl, Or.inr ⟨HO.out, _, _, rfl⟩, (by repeat (first | with_reducible exact Below.refl _ _ | with_reducible exact B1 | with_reducible refine Below.setCell ?_ (by first | omega | (simp; done) | (simp; omega)) _ | with_reducible refine bDrewN ?_ _ | with_reducible refine Below.drew ?_ | with_reducible refine Below.alloc ?_ (by first | omega | (simp; done) | (simp; omega)) _))⟩
  have HO : Hid (tstB now (a, b) = true) := by show _ = _; unfold tstB; simp only; rw [e0, e1]; rfl
  have B1 := HB.out
  go_wp2
  go_ret
  exact ⟨_, rfl, Or.inl ⟨HO.out, rfl⟩, (by repeat (first | with_reducible exact Below.refl _ _ | with_reducible exact B1 | with_reducible refine Below.setCell ?_ (by first | omega | (simp; done) | (simp; omega)) _ | with_reducible refine bDrewN ?_ _ | with_reducible refine Below.drew ?_ | with_reducible refine Below.alloc ?_ (by first | omega | (simp; done) | (simp; omega)) _))⟩
set_option maxRecDepth 20000 in
set_option maxHeartbeats 4000000 in
theorem testsMisfit_any (s : Option Addr) (n c : Nat) (V : Nat → Int × Int) (now : Int) (w : World) (hn : (n : Int) ≤ 1048576) (HR : Hid (RowTest w s n V)) (HE : Hid (ErrT w)) :
    Calls Tryd.prog 35 #[.slice s n c, .int .i64 now] w fun e w' => ∃ v, e = .returned v ∧ MisV v (tssB n V now) ∧ Below w.heap.size w w' := by
  obtain ⟨-, ⟨zm, tm, xm, gm⟩, -⟩ := HE.out
  by_cases n1 : 60 < n
  · have b1 : (60 : Int) < (n : Int) := by omega
    have HO : Hid (tssB n V now = false) := tss_long n1
    go_enter Tryd.func35, Tryd.ntmps35
    go_wp2
    all_goals (go_ret; exact retMis (Or.inr ⟨HO.out, _, _, _, rfl⟩) (by repeat (first | with_reducible exact Below.refl _ _ | with_reducible refine Below.setCell ?_ (by first | omega | (simp; done) | (simp; omega)) _ | with_reducible refine bDrewN ?_ _ | with_reducible refine Below.drew ?_ | with_reducible refine Below.alloc ?_ (by first | omega | (simp; done) | (simp; omega)) _)))
  have b1 : decide ((60 : Int) < (n : Int)) = false := decide_eq_false (by omega)
  have HO : Hid (tssB n V now = decide (∀ j, j < n → tstB now (V j) = true)) := tss_is (by omega)
  have m6 : (n : Int) ≤ 60 := by omega
  go_enter Tryd.func35, Tryd.ntmps35
  go_upto_region 3 with fail
  obtain ⟨wa, hwa⟩ : ∃ wa, wa = (w.alloc (.cells #[.slice s n c] 40)).alloc (.cells #[.int .i64 now] 2) := ⟨_, rfl⟩
  rw [← hwa]
  have hb : Below w.heap.size w wa := by rw [hwa]; exact (by repeat (first | with_reducible exact Below.refl _ _ | with_reducible refine Below.setCell ?_ (by first | omega | (simp; done) | (simp; omega)) _ | with_reducible refine bDrewN ?_ _ | with_reducible refine Below.drew ?_ | with_reducible refine Below.alloc ?_ (by first | omega | (simp; done) | (simp; omega)) _))
  have a0 : wa.cell? ⟨w.heap.size, 0, none⟩ = some (.slice s n c) := by rw [hwa]; simp [go_sem]
  have a1 : wa.cell? ⟨w.heap.size + 1, 0, none⟩ = some (.int .i64 now) := by rw [hwa]; simp [go_sem]
  have za : w.heap.size < wa.heap.size := by rw [hwa]; simp; try omega
  have zb : w.heap.size + 1 < wa.heap.size := by rw [hwa]; simp
  have HB : Hid (Below w.heap.size w wa) := hb
  have HC : Hid (∀ (k : Nat) w', k < n → Below wa.heap.size wa w' → Calls Tryd.prog 62 (#[.int .i64 k] ++ #[.pointer (some ⟨w.heap.size, 0, none⟩), .pointer (some ⟨w.heap.size + 1, 0, none⟩)]) w' fun e w2 => ∃ v, e = .returned v ∧ ErrV v (tstB now (V k)) ∧ Below w'.heap.size w' w2) := fun k w' hk hx =>
    tests1_any w.heap.size (w.heap.size + 1) s n c V now k w' hk m6 (Nat.lt_of_lt_of_le za hx.size) (Nat.lt_of_lt_of_le zb hx.size) ((hx.cell (p := ⟨w.heap.size, 0, none⟩) za).trans a0) ((hx.cell (p := ⟨w.heap.size + 1, 0, none⟩) zb).trans a1)
      ((HR.out.below HB.out).below hx) ((HE.out.below HB.out).below hx)
  clear hwa hb gm zm
  go_wp2_with fail
  refine (firstMisfit_any n 62 _ (fun k => tstB now (V k)) _ hn (fun _ _ => by kernel_rfl) HC).mono ?_
  rintro e w1 ⟨v, rfl, hv, hx⟩
  have B1 : Below w.heap.size w w1 := HB.out.trans (hx.mono HB.out.size)
  have HV : Hid (MisV v (tssB n V now)) := by show MisV _ _; rw [HO.out]; exact hv
  clear hv hx
  go_wp2
  go_ret
  exact retMis HV.out B1
set_option maxRecDepth 20000 in
set_option maxHeartbeats 4000000 in
theorem cmpD1 (p q g o n c X Y : Nat) (a b a2 b2 now : Int) (w : World) (hX : (X : Int) < (n : Int)) (hY : (Y : Int) < (n : Int)) (hn : (n : Int) ≤ 60) (zp : p < w.heap.size) (zq : q < w.heap.size) (zg : g < w.heap.size)
    (h1 : 0 ≤ now) (h2 : now ≤ 1000000000) (h3 : 1 ≤ a) (h4 : a ≤ 1000000) (h5 : 0 ≤ b) (h6 : b ≤ now) (g3 : 1 ≤ a2) (g4 : a2 ≤ 1000000) (g5 : 0 ≤ b2) (g6 : b2 ≤ now)
    (cp : w.cell? ⟨p, 0, none⟩ = some (.slice (some ⟨g, o, none⟩) n c)) (cq : w.cell? ⟨q, 0, none⟩ = some (.int .i64 now)) (c0 : w.cell? ⟨g, o + X * 2, none⟩ = some (.int .i64 a)) (c1 : w.cell? ⟨g, o + X * 2 + 1, none⟩ = some (.int .i64 b)) (d0 : w.cell? ⟨g, o + Y * 2, none⟩ = some (.int .i64 a2)) (d1 : w.cell? ⟨g, o + Y * 2 + 1, none⟩ = some (.int .i64 b2)) :
    Calls Tryd.prog 38 #[.int .i64 (Y : Int), .int .i64 (X : Int), .pointer (some ⟨p, 0, none⟩), .pointer (some ⟨q, 0, none⟩)] w fun e w' => e = .returned (.int .i64 (cmpV (now - b - a) (now - b2 - a2))) ∧ Below w.heap.size w w' := by
  go_enter Tryd.func38, Tryd.ntmps38
  go_upto_region 1 with fail
  refine wp_region_held_drew (S := fun w' => w'.cell? ⟨p, 0, none⟩ = some (.slice (some ⟨g, o, none⟩) n c) ∧ w'.cell? ⟨q, 0, none⟩ = some (.int .i64 now) ∧ w'.cell? ⟨g, o + X * 2, none⟩ = some (.int .i64 a) ∧ w'.cell? ⟨g, o + X * 2 + 1, none⟩ = some (.int .i64 b) ∧ w'.cell? ⟨g, o + Y * 2, none⟩ = some (.int .i64 a2) ∧ w'.cell? ⟨g, o + Y * 2 + 1, none⟩ = some (.int .i64 b2)) (by kernel_rfl) ?_ (fun hHeld => ?_)
  · exact ⟨((Below.drew (Below.refl _ _) : Below w.heap.size w w.drew).cell (p := ⟨p, 0, none⟩) zp).trans cp, ((Below.drew (Below.refl _ _) : Below w.heap.size w w.drew).cell (p := ⟨q, 0, none⟩) zq).trans cq, ((Below.drew (Below.refl _ _) : Below w.heap.size w w.drew).cell (p := ⟨g, o + X * 2, none⟩) zg).trans c0, ((Below.drew (Below.refl _ _) : Below w.heap.size w w.drew).cell (p := ⟨g, o + X * 2 + 1, none⟩) zg).trans c1, ((Below.drew (Below.refl _ _) : Below w.heap.size w w.drew).cell (p := ⟨g, o + Y * 2, none⟩) zg).trans d0, ((Below.drew (Below.refl _ _) : Below w.heap.size w w.drew).cell (p := ⟨g, o + Y * 2 + 1, none⟩) zg).trans d1⟩
  obtain ⟨v0, hv0⟩ : ∃ z, z = w.drew := ⟨_, rfl⟩
  try rw [← hv0] at hHeld
  rw [← hv0]
  have bv0 : Below w.heap.size w v0 := by rw [hv0]; exact Below.drew (Below.refl _ _)
  clear hv0
  have B1 : Below w.heap.size w v0 := bv0
  clear bv0
  refine wpAnyH_take (i := 0) (v := .slice (some ⟨g, o, none⟩) n c) rfl (by kernel_rfl) (by kernel_rfl) (by kernel_rfl) (fun _ _ _ h => h) (Or.inl ⟨by kernel_rfl, ?_⟩) hHeld ?_
  · intro w' hSw
    obtain ⟨s0, s1, s2, s3, s4, s5⟩ := hSw
    first | (go_simp; done) | (go_simp; with_reducible rfl) | (go_simp; rw [IntKind.wrap_i64]; omega) | (go_simp; omega)
  simp only [Act.put, List.setIfInBounds_toArray, List.set_cons_zero, List.set_cons_succ]
  refine wpAnyH_take (i := 1) (v := .int .i64 (X : Int)) rfl (by kernel_rfl) (by kernel_rfl) (by kernel_rfl) (fun _ _ _ h => h) (Or.inl ⟨by kernel_rfl, ?_⟩) hHeld ?_
  · intro w' hSw
    obtain ⟨s0, s1, s2, s3, s4, s5⟩ := hSw
    first | (go_simp; done) | (go_simp; with_reducible rfl) | (go_simp; rw [IntKind.wrap_i64]; omega) | (go_simp; omega)
  simp only [Act.put, List.setIfInBounds_toArray, List.set_cons_zero, List.set_cons_succ]
  refine wpAnyH_take (i := 2) (v := .pointer (some ⟨g, o + X * 2, none⟩)) rfl (by kernel_rfl) (by kernel_rfl) (by kernel_rfl) (fun _ _ _ h => h) (Or.inl ⟨by kernel_rfl, ?_⟩) hHeld ?_
  · intro w' hSw
    obtain ⟨s0, s1, s2, s3, s4, s5⟩ := hSw
    first | (go_simp; done) | (go_simp; with_reducible rfl) | (go_simp; rw [IntKind.wrap_i64]; omega) | (go_simp; omega)
  simp only [Act.put, List.setIfInBounds_toArray, List.set_cons_zero, List.set_cons_succ]
  refine wpAnyH_take (i := 3) (v := .agg #[.int .i64 a, .int .i64 b]) rfl (by kernel_rfl) (by kernel_rfl) (by kernel_rfl) (fun _ _ _ h => h) (Or.inl ⟨by kernel_rfl, ?_⟩) hHeld ?_
  · intro w' hSw
    obtain ⟨s0, s1, s2, s3, s4, s5⟩ := hSw
    first | (go_simp; done) | (go_simp; with_reducible rfl) | (go_simp; rw [IntKind.wrap_i64]; omega) | (go_simp; omega)
  simp only [Act.put, List.setIfInBounds_toArray, List.set_cons_zero, List.set_cons_succ]
  refine wpAnyH_take (i := 4) (v := .int .i64 now) rfl (by kernel_rfl) (by kernel_rfl) (by kernel_rfl) (fun _ _ _ h => h) (Or.inl ⟨by kernel_rfl, ?_⟩) hHeld ?_
  · intro w' hSw
    obtain ⟨s0, s1, s2, s3, s4, s5⟩ := hSw
    first | (go_simp; done) | (go_simp; with_reducible rfl) | (go_simp; rw [IntKind.wrap_i64]; omega) | (go_simp; omega)
  simp only [Act.put, List.setIfInBounds_toArray, List.set_cons_zero, List.set_cons_succ]
  refine wpAnyH_take (i := 6) (v := .slice (some ⟨g, o, none⟩) n c) rfl (by kernel_rfl) (by kernel_rfl) (by kernel_rfl) (fun _ _ _ h => h) (Or.inl ⟨by kernel_rfl, ?_⟩) hHeld ?_
  · intro w' hSw
    obtain ⟨s0, s1, s2, s3, s4, s5⟩ := hSw
    first | (go_simp; done) | (go_simp; with_reducible rfl) | (go_simp; rw [IntKind.wrap_i64]; omega) | (go_simp; omega)
  simp only [Act.put, List.setIfInBounds_toArray, List.set_cons_zero, List.set_cons_succ]
  refine wpAnyH_take (i := 7) (v := .int .i64 (Y : Int)) rfl (by kernel_rfl) (by kernel_rfl) (by kernel_rfl) (fun _ _ _ h => h) (Or.inl ⟨by kernel_rfl, ?_⟩) hHeld ?_
  · intro w' hSw
    obtain ⟨s0, s1, s2, s3, s4, s5⟩ := hSw
    first | (go_simp; done) | (go_simp; with_reducible rfl) | (go_simp; rw [IntKind.wrap_i64]; omega) | (go_simp; omega)
  simp only [Act.put, List.setIfInBounds_toArray, List.set_cons_zero, List.set_cons_succ]
  refine wpAnyH_take (i := 8) (v := .pointer (some ⟨g, o + Y * 2, none⟩)) rfl (by kernel_rfl) (by kernel_rfl) (by kernel_rfl) (fun _ _ _ h => h) (Or.inl ⟨by kernel_rfl, ?_⟩) hHeld ?_
  · intro w' hSw
    obtain ⟨s0, s1, s2, s3, s4, s5⟩ := hSw
    first | (go_simp; done) | (go_simp; with_reducible rfl) | (go_simp; rw [IntKind.wrap_i64]; omega) | (go_simp; omega)
  simp only [Act.put, List.setIfInBounds_toArray, List.set_cons_zero, List.set_cons_succ]
  refine wpAnyH_take (i := 9) (v := .agg #[.int .i64 a2, .int .i64 b2]) rfl (by kernel_rfl) (by kernel_rfl) (by kernel_rfl) (fun _ _ _ h => h) (Or.inl ⟨by kernel_rfl, ?_⟩) hHeld ?_
  · intro w' hSw
    obtain ⟨s0, s1, s2, s3, s4, s5⟩ := hSw
    first | (go_simp; done) | (go_simp; with_reducible rfl) | (go_simp; rw [IntKind.wrap_i64]; omega) | (go_simp; omega)
  simp only [Act.put, List.setIfInBounds_toArray, List.set_cons_zero, List.set_cons_succ]
  refine wpAnyH_take (i := 10) (v := .int .i64 now) rfl (by kernel_rfl) (by kernel_rfl) (by kernel_rfl) (fun _ _ _ h => h) (Or.inl ⟨by kernel_rfl, ?_⟩) hHeld ?_
  · intro w' hSw
    obtain ⟨s0, s1, s2, s3, s4, s5⟩ := hSw
    first | (go_simp; done) | (go_simp; with_reducible rfl) | (go_simp; rw [IntKind.wrap_i64]; omega) | (go_simp; omega)
  simp only [Act.put, List.setIfInBounds_toArray, List.set_cons_zero, List.set_cons_succ]
  refine wpAnyH_ready (rs := [5]) (by kernel_rfl) (by simp) ?_
  refine (AllReadyH.cons rfl (fun KK hK => ?_) AllReadyH.nil)
  go_simp
  go_wp2_with fail
  refine (beyond_any a b now _ h1 h2 h3 h4 h5 h6).mono ?_
  rintro e v0_1 ⟨rfl, h8⟩
  have B8 : Below w.heap.size w v0_1 := B1.trans (h8.mono B1.size)
  clear h8 B1
  rename (Below w.heap.size w v0_1) => B1
  refine hK.out _ _ (⟨(B1.cell (p := ⟨p, 0, none⟩) zp).trans cp, (B1.cell (p := ⟨q, 0, none⟩) zq).trans cq, (B1.cell (p := ⟨g, o + X * 2, none⟩) zg).trans c0, (B1.cell (p := ⟨g, o + X * 2 + 1, none⟩) zg).trans c1, (B1.cell (p := ⟨g, o + Y * 2, none⟩) zg).trans d0, (B1.cell (p := ⟨g, o + Y * 2 + 1, none⟩) zg).trans d1⟩) (fun hHeld => ?_)
  clear hK KK
  refine wpAnyH_ready (rs := [11]) (by kernel_rfl) (by simp) ?_
  refine (AllReadyH.cons rfl (fun KK hK => ?_) AllReadyH.nil)
  go_simp
  go_wp2_with fail
  refine (beyond_any a2 b2 now _ h1 h2 g3 g4 g5 g6).mono ?_
  rintro e v0_2 ⟨rfl, h8⟩
  have B8 : Below w.heap.size w v0_2 := B1.trans (h8.mono B1.size)
  clear h8 B1
  rename (Below w.heap.size w v0_2) => B1
  refine hK.out _ _ (⟨(B1.cell (p := ⟨p, 0, none⟩) zp).trans cp, (B1.cell (p := ⟨q, 0, none⟩) zq).trans cq, (B1.cell (p := ⟨g, o + X * 2, none⟩) zg).trans c0, (B1.cell (p := ⟨g, o + X * 2 + 1, none⟩) zg).trans c1, (B1.cell (p := ⟨g, o + Y * 2, none⟩) zg).trans d0, (B1.cell (p := ⟨g, o + Y * 2 + 1, none⟩) zg).trans d1⟩) (fun hHeld => ?_)
  clear hK KK
  refine wpAnyH_ready (rs := [12]) (by kernel_rfl) (by simp) ?_
  refine (AllReadyH.cons rfl (fun KK hK => ?_) AllReadyH.nil)
  go_simp
  go_wp2_with fail
  refine (compare_any _ _ _).mono ?_
  rintro e v0_3 ⟨rfl, rfl⟩
  refine hK.out _ _ (⟨(B1.cell (p := ⟨p, 0, none⟩) zp).trans cp, (B1.cell (p := ⟨q, 0, none⟩) zq).trans cq, (B1.cell (p := ⟨g, o + X * 2, none⟩) zg).trans c0, (B1.cell (p := ⟨g, o + X * 2 + 1, none⟩) zg).trans c1, (B1.cell (p := ⟨g, o + Y * 2, none⟩) zg).trans d0, (B1.cell (p := ⟨g, o + Y * 2 + 1, none⟩) zg).trans d1⟩) (fun hHeld => ?_)
  clear hK KK
  refine wpAnyH_ready (rs := [13]) (by kernel_rfl) (by simp) ?_
  refine AllReadyH.cons rfl (fun KK hK => ?_) AllReadyH.nil
  go_simp
  refine hK.out _ _ hHeld (fun hHeld => ?_)
  clear hK KK
  refine wpAnyH_done (by kernel_rfl) ?_ _
  clear hHeld
  go_wp2
  go_ret
  exact ⟨rfl, B1⟩
theorem cmpD_any (p q : Nat) (s : Option Addr) (n c : Nat) (V : Nat → Int × Int) (now : Int) (w0 : World) (hd : duB n V now = true) (zp : p < w0.heap.size) (zq : q < w0.heap.size) (cp : w0.cell? ⟨p, 0, none⟩ = some (.slice s n c)) (cq : w0.cell? ⟨q, 0, none⟩ = some (.int .i64 now)) (HR : RowTest w0 s n V) :
    CmpK (fun x => 0 ≤ x ∧ x < (n : Int)) (fun w' => Below w0.heap.size w0 w') (ltD V now) (.pointer (some ⟨p, 0, none⟩)) (.pointer (some ⟨q, 0, none⟩)) := by
  intro w x y hB ox oy hxy
  obtain ⟨X, rfl⟩ : ∃ X : Nat, x = (X : Int) := ⟨x.toNat, by omega⟩
  obtain ⟨Y, rfl⟩ : ∃ Y : Nat, y = (Y : Int) := ⟨y.toNat, by omega⟩
  obtain ⟨hN, n6, hT⟩ := du_yes hd
  have hX : X < n := by omega
  have hY : Y < n := by omega
  obtain ⟨tx1, tx2⟩ := tst_yes (hT X hX)
  obtain ⟨ty1, ty2⟩ := tst_yes (hT Y hY)
  obtain ⟨g, o, e1, zg, c0, c1⟩ := HR X hX
  obtain ⟨g2, o2, e2, _, d0, d1⟩ := HR Y hY
  rw [e1] at e2 cp
  injection e2 with e2
  injection e2 with e3 e4 _
  subst e3 e4
  refine (cmpD1 p q g o n c X Y (V X).1 (V X).2 (V Y).1 (V Y).2 now w (by omega) (by omega) (by omega) (Nat.lt_of_lt_of_le zp hB.size) (Nat.lt_of_lt_of_le zq hB.size) (Nat.lt_of_lt_of_le zg hB.size) hN.1 hN.2 tx1.1 tx1.2 tx2.1 tx2.2 ty1.1 ty1.2 ty2.1 ty2.2
    ((hB.cell (p := ⟨p, 0, none⟩) zp).trans cp) ((hB.cell (p := ⟨q, 0, none⟩) zq).trans cq) ((hB.cell (p := ⟨g, o + X * 2, none⟩) zg).trans c0) ((hB.cell (p := ⟨g, o + X * 2 + 1, none⟩) zg).trans c1) ((hB.cell (p := ⟨g, o + Y * 2, none⟩) zg).trans d0) ((hB.cell (p := ⟨g, o + Y * 2 + 1, none⟩) zg).trans d1)).mono ?_
  rintro e w' ⟨h1, h2⟩
  refine ⟨_, h1, ?_, h2⟩
  rw [cmp_neg]
  unfold ltD byd
  simp only [Int.toNat_natCast]
  omega
end Go.Proofs.YtfhbkfdfggaomabDoor
