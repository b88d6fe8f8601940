/-
What is proved: what impl.planMisfit finds of beginnings; impl.ScheduleOk.
-/
import Derived.Test.YtfhbkfdfggaomaaDoorScR
import Derived.Deep.RegionHeld3
import Derived.Deep.DeepCutAuto
import Derived.BigQuiet
namespace Go.Proofs.YtfhbkfdfggaomaaDoor
set_option maxRecDepth 40000
open Go.ChangeShapes Go.WideShapes Go.ChangeAt Go.RowKit
set_option linter.unusedVariables false
set_option linter.unusedSimpArgs false

theorem keep3P {W W' : World} {p q : Nat} {a b c : Value} (h0 : W.cell? ⟨p, 0, none⟩ = some a) (h1 : W.cell? ⟨p, 1, none⟩ = some b) (h2 : W.cell? ⟨q, 0, none⟩ = some c) (zp : p < W.heap.size) (zq : q < W.heap.size) (hb : Below W.heap.size W W') : W'.cell? ⟨p, 0, none⟩ = some a ∧ W'.cell? ⟨p, 1, none⟩ = some b ∧ W'.cell? ⟨q, 0, none⟩ = some c := ⟨(hb.cell (p := ⟨p, 0, none⟩) zp).trans h0, (hb.cell (p := ⟨p, 1, none⟩) zp).trans h1, (hb.cell (p := ⟨q, 0, none⟩) zq).trans h2⟩
theorem pln_early {n : Nat} {X : Nat → Int} {K : Nat → Nat} {V : Nat → Nat → Int} {cr : Int} {B : Nat → Int} {j : Nat} (h : B j < rdyF X B (V j) (K j)) : plnB n X K V cr B j = false := by unfold plnB; rw [decide_eq_false (by omega)]; rfl
theorem pln_many {n : Nat} {X : Nat → Int} {K : Nat → Nat} {V : Nat → Nat → Int} {cr : Int} {B : Nat → Int} {j : Nat} (h : cr < busI X B (B j) n) : plnB n X K V cr B j = false := by unfold plnB; rw [decide_eq_false (show ¬ busI X B (B j) n ≤ cr by omega)]; simp
theorem pln_good {n : Nat} {X : Nat → Int} {K : Nat → Nat} {V : Nat → Nat → Int} {cr : Int} {B : Nat → Int} {j : Nat} (h : ¬ B j < rdyF X B (V j) (K j)) (g : ¬ cr < busI X B (B j) n) : plnB n X K V cr B j = true := by unfold plnB; rw [decide_eq_true (show rdyF X B (V j) (K j) ≤ B j by omega), decide_eq_true (show busI X B (B j) n ≤ cr by omega)]; rfl
set_option maxRecDepth 20000 in
set_option maxHeartbeats 8000000 in
theorem plan1_any (p q : Nat) (s t : Option Addr) (n c d : Nat) (X : Nat → Int) (K : Nat → Nat) (V : Nat → Nat → Int) (B : Nat → Int) (cr : Int) (k : Nat) (w : World) (hk : k < n) (hn : (n : Int) ≤ 40) (hK : (K k : Int) ≤ 1048576) (zp : p < w.heap.size) (zq : q < w.heap.size)
    (p0 : w.cell? ⟨p, 0, none⟩ = some (.slice s n c)) (p1 : w.cell? ⟨p, 1, none⟩ = some (.slice t n d)) (q0 : w.cell? ⟨q, 0, none⟩ = some (.int .i64 cr)) (HR : Hid (RowJbs w s n X K V)) (HT : Hid (RowI w t n B)) (HG : Hid (∀ j, j < n → (1 ≤ X j ∧ X j ≤ 1000) ∧ 0 ≤ B j ∧ B j ≤ 1000000000)) (HV : Hid (∀ j, j < n → ∀ i, i < K j → 0 ≤ V j i ∧ V j i < (n : Int))) (HE : Hid (ErrS w)) :
    Calls Tryd.prog 97 #[.int .i64 k, .pointer (some ⟨p, 0, none⟩), .pointer (some ⟨q, 0, none⟩)] w fun e w' => ∃ v, e = .returned v ∧ ErrV v (plnB n X K V cr B k) ∧ Below w.heap.size w w' := by
  have HCR : Hid (∀ w1, Below w.heap.size w w1 → Calls Tryd.prog 72 #[.agg #[.slice s n c, .slice t n d], .int .i64 k] w1 fun e w' => e = .returned (.int .i64 (rdyF X B (V k) (K k))) ∧ Below w1.heap.size w1 w') := fun w1 hb => readyAt_any s t n c d X K V B k w1 hk hn hK (HV.out k hk) (HR.out.below hb) (HT.out.below hb) HG
  have HCU : Hid (∀ w1, Below w.heap.size w w1 → Calls Tryd.prog 98 #[.agg #[.slice s n c, .slice t n d], .int .i64 (B k)] w1 fun e w' => e = .returned (.int .i64 (busI X B (B k) n)) ∧ Below w1.heap.size w1 w') := fun w1 hb => underWay_any s t n c d X K V B (B k) w1 hn (HR.out.below hb) (HT.out.below hb) HG
  have HRB : Hid (0 ≤ rdyF X B (V k) (K k) ∧ rdyF X B (V k) (K k) ≤ 1000001000) := rdy_in (by decide) _ (fun i hi => by
    have := HV.out k hk i hi
    have := HG.out (V k i).toNat (by omega)
    omega)
  have hbn := (bus_in (X := X) (B := B) (t := B k) n).2.2
  obtain ⟨-, -, -, -, ⟨ze, te, xe, ge⟩, zc, tc, xc, gc⟩ := HE.out
  obtain ⟨h, i, rfl, zh, d0⟩ := HT.out k hk
  have HEA : Hid (B k < rdyF X B (V k) (K k) → plnB n X K V cr B k = false) := pln_early
  have HMA : Hid (cr < busI X B (B k) n → plnB n X K V cr B k = false) := pln_many
  have HGO : Hid (¬ B k < rdyF X B (V k) (K k) → ¬ cr < busI X B (B k) n → plnB n X K V cr B k = true) := pln_good
  have hyb := (HG.out k hk).2
  have hrb := HRB.out
  obtain ⟨y, hy⟩ : ∃ y, B k = y := ⟨_, rfl⟩
  obtain ⟨r, hr⟩ : ∃ r, rdyF X B (V k) (K k) = r := ⟨_, rfl⟩
  rw [hy] at d0 HCU HEA HMA HGO hyb hbn
  rw [hr] at HCR HEA HGO hrb
  obtain ⟨u, hu⟩ : ∃ u, busI X B y n = u := ⟨_, rfl⟩
  rw [hu] at HCU HMA HGO hbn
  have k1 : (k : Int) < (n : Int) := by omega
  clear HR HT HG HV HE HRB hy hr hu
  go_enter Tryd.func97, Tryd.ntmps97
  go_wp2_with fail
  refine (HCR.out _ (Below.refl _ _)).mono ?_
  rintro e w1 ⟨rfl, h1⟩
  have HB1 : Hid (Below w.heap.size w w1) := h1
  replace ge := (h1.cell (p := ⟨4, 0, none⟩) ze).trans ge
  replace gc := (h1.cell (p := ⟨5, 0, none⟩) zc).trans gc
  replace p0 := (h1.cell (p := ⟨p, 0, none⟩) zp).trans p0
  replace p1 := (h1.cell (p := ⟨p, 1, none⟩) zp).trans p1
  replace q0 := (h1.cell (p := ⟨q, 0, none⟩) zq).trans q0
  replace ze := Nat.lt_of_lt_of_le ze h1.size
  replace zc := Nat.lt_of_lt_of_le zc h1.size
  replace zp := Nat.lt_of_lt_of_le zp h1.size
  replace zq := Nat.lt_of_lt_of_le zq h1.size
  clear h1 d0
  by_cases t0 : y < r
  · have HO : Hid (plnB n X K V cr B k = false) := HEA.out (by omega)
    have B1 := HB1.out
    go_wp2
    go_ret
    exact ⟨_, rfl, Or.inr ⟨HO.out, _, _, rfl⟩, (by repeat (first | with_reducible exact Below.refl _ _ | with_reducible exact B1 | with_reducible refine Below.setCell ?_ (by first | omega | (simp; done) | (simp; omega)) _ | with_reducible refine bDrewN ?_ _ | with_reducible refine Below.drew ?_ | with_reducible refine Below.alloc ?_ (by first | omega | (simp; done) | (simp; omega)) _))⟩
  by_cases t1 : cr < u
  · have HO : Hid (plnB n X K V cr B k = false) := HMA.out t1
    have t1b : decide (cr < u) = true := decide_eq_true t1
    go_upto_region 4 with fail
    refine wp_region_held_drew (S := fun w' => w'.cell? ⟨p, 0, none⟩ = some (.slice s n c) ∧ w'.cell? ⟨p, 1, none⟩ = some (.slice (some ⟨h, i, none⟩) n d) ∧ w'.cell? ⟨q, 0, none⟩ = some (.int .i64 cr)) (by kernel_rfl) ?_ (fun hHeld => ?_)
    · exact keep3P p0 p1 q0 zp zq (by repeat (first | with_reducible exact Below.refl _ _ | with_reducible refine Below.setCell ?_ (by first | omega | (simp; done) | (simp; omega)) _ | with_reducible refine bDrewN ?_ _ | with_reducible refine Below.drew ?_ | with_reducible refine Below.alloc ?_ (by first | omega | (simp; done) | (simp; omega)) _))
    refine wpAnyH_take (i := 0) (v := .agg #[.slice s n c, .slice (some ⟨h, i, none⟩) n d]) rfl (by kernel_rfl) (by kernel_rfl) (by kernel_rfl) (fun _ _ _ h => h) (Or.inl ⟨by kernel_rfl, ?_⟩) hHeld ?_
    · intro w' hSw
      obtain ⟨s0, s1, s2⟩ := hSw
      first | (go_simp; done) | (go_simp; with_reducible rfl) | (go_simp; rw [IntKind.wrap_i64]; omega) | (go_simp; omega)
    simp only [Act.put, List.setIfInBounds_toArray, List.set_cons_zero, List.set_cons_succ]
    refine wpAnyH_take (i := 1) (v := .int .i64 y) rfl (by kernel_rfl) (by kernel_rfl) (by kernel_rfl) (fun _ _ _ h => h) (Or.inl ⟨by kernel_rfl, ?_⟩) hHeld ?_
    · intro w' hSw
      obtain ⟨s0, s1, s2⟩ := hSw
      first | (go_simp; done) | (go_simp; with_reducible rfl) | (go_simp; rw [IntKind.wrap_i64]; omega) | (go_simp; omega)
    simp only [Act.put, List.setIfInBounds_toArray, List.set_cons_zero, List.set_cons_succ]
    refine wpAnyH_take (i := 3) (v := .int .i64 cr) rfl (by kernel_rfl) (by kernel_rfl) (by kernel_rfl) (fun _ _ _ h => h) (Or.inl ⟨by kernel_rfl, ?_⟩) hHeld ?_
    · intro w' hSw
      obtain ⟨s0, s1, s2⟩ := hSw
      first | (go_simp; done) | (go_simp; with_reducible rfl) | (go_simp; rw [IntKind.wrap_i64]; omega) | (go_simp; omega)
    simp only [Act.put, List.setIfInBounds_toArray, List.set_cons_zero, List.set_cons_succ]
    refine wpAnyH_ready (rs := [2]) (by kernel_rfl) (by simp) ?_
    refine AllReadyH.cons rfl (fun KK hK => ?_) AllReadyH.nil
    go_simp
    go_wp2_with (first | (go_at_call 98; refine (HCU.out _ (HB1.out.trans (Below.mono (by repeat (first | with_reducible exact Below.refl _ _ | with_reducible refine Below.setCell ?_ (by first | omega | (simp; done) | (simp; omega)) _ | with_reducible refine bDrewN ?_ _ | with_reducible refine Below.drew ?_ | with_reducible refine Below.alloc ?_ (by first | omega | (simp; done) | (simp; omega)) _)) HB1.out.size))).mono ?_; rintro e wz ⟨rfl, h8⟩; have B8 : Below w1.heap.size w1 wz := Below.trans (by repeat (first | with_reducible exact Below.refl _ _ | with_reducible refine Below.setCell ?_ (by first | omega | (simp; done) | (simp; omega)) _ | with_reducible refine bDrewN ?_ _ | with_reducible refine Below.drew ?_ | with_reducible refine Below.alloc ?_ (by first | omega | (simp; done) | (simp; omega)) _)) (h8.mono (by first | omega | (simp; done) | (simp; omega))); have s8 := B8.size; clear h8))
    refine hK.out _ _ (keep3P p0 p1 q0 zp zq B8) (fun hHeld => ?_)
    clear hK KK
    refine wpAnyH_take (i := 4) (v := .bool true) rfl (by kernel_rfl) (by kernel_rfl) (by kernel_rfl) (fun _ _ _ h => h) (Or.inl ⟨by kernel_rfl, ?_⟩) hHeld ?_
    · intro w' hSw
      obtain ⟨s0, s1, s2⟩ := hSw
      first | (go_simp; done) | (go_simp; with_reducible rfl) | (go_simp; rw [IntKind.wrap_i64]; omega) | (go_simp; omega)
    simp only [Act.put, List.setIfInBounds_toArray, List.set_cons_zero, List.set_cons_succ]
    refine wpAnyH_ready (rs := [5]) (by kernel_rfl) (by simp) ?_
    refine AllReadyH.cons rfl (fun KK hK => ?_) AllReadyH.nil
    go_simp
    refine hK.out _ _ hHeld (fun hHeld => ?_)
    clear hK KK
    refine wpAnyH_done (by kernel_rfl) ?_ _
    clear hHeld
    have B1 : Below w.heap.size w wz := HB1.out.trans (B8.mono HB1.out.size)
    replace gc := (B8.cell (p := ⟨5, 0, none⟩) zc).trans gc
    clear t1 t1b
    go_wp2
    go_ret
    exact ⟨_, rfl, Or.inr ⟨HO.out, _, _, rfl⟩, (by repeat (first | with_reducible exact Below.refl _ _ | with_reducible exact B1 | with_reducible refine Below.setCell ?_ (by first | omega | (simp; done) | (simp; omega)) _ | with_reducible refine bDrewN ?_ _ | with_reducible refine Below.drew ?_ | with_reducible refine Below.alloc ?_ (by first | omega | (simp; done) | (simp; omega)) _))⟩
  · have HO : Hid (plnB n X K V cr B k = true) := HGO.out (by omega) (by omega)
    have t1b : decide (cr < u) = false := decide_eq_false t1
    have t1c : u ≤ cr := by omega
    go_upto_region 4 with fail
    refine wp_region_held_drew (S := fun w' => w'.cell? ⟨p, 0, none⟩ = some (.slice s n c) ∧ w'.cell? ⟨p, 1, none⟩ = some (.slice (some ⟨h, i, none⟩) n d) ∧ w'.cell? ⟨q, 0, none⟩ = some (.int .i64 cr)) (by kernel_rfl) ?_ (fun hHeld => ?_)
    · exact keep3P p0 p1 q0 zp zq (by repeat (first | with_reducible exact Below.refl _ _ | with_reducible refine Below.setCell ?_ (by first | omega | (simp; done) | (simp; omega)) _ | with_reducible refine bDrewN ?_ _ | with_reducible refine Below.drew ?_ | with_reducible refine Below.alloc ?_ (by first | omega | (simp; done) | (simp; omega)) _))
    refine wpAnyH_take (i := 0) (v := .agg #[.slice s n c, .slice (some ⟨h, i, none⟩) n d]) rfl (by kernel_rfl) (by kernel_rfl) (by kernel_rfl) (fun _ _ _ h => h) (Or.inl ⟨by kernel_rfl, ?_⟩) hHeld ?_
    · intro w' hSw
      obtain ⟨s0, s1, s2⟩ := hSw
      first | (go_simp; done) | (go_simp; with_reducible rfl) | (go_simp; rw [IntKind.wrap_i64]; omega) | (go_simp; omega)
    simp only [Act.put, List.setIfInBounds_toArray, List.set_cons_zero, List.set_cons_succ]
    refine wpAnyH_take (i := 1) (v := .int .i64 y) rfl (by kernel_rfl) (by kernel_rfl) (by kernel_rfl) (fun _ _ _ h => h) (Or.inl ⟨by kernel_rfl, ?_⟩) hHeld ?_
    · intro w' hSw
      obtain ⟨s0, s1, s2⟩ := hSw
      first | (go_simp; done) | (go_simp; with_reducible rfl) | (go_simp; rw [IntKind.wrap_i64]; omega) | (go_simp; omega)
    simp only [Act.put, List.setIfInBounds_toArray, List.set_cons_zero, List.set_cons_succ]
    refine wpAnyH_take (i := 3) (v := .int .i64 cr) rfl (by kernel_rfl) (by kernel_rfl) (by kernel_rfl) (fun _ _ _ h => h) (Or.inl ⟨by kernel_rfl, ?_⟩) hHeld ?_
    · intro w' hSw
      obtain ⟨s0, s1, s2⟩ := hSw
      first | (go_simp; done) | (go_simp; with_reducible rfl) | (go_simp; rw [IntKind.wrap_i64]; omega) | (go_simp; omega)
    simp only [Act.put, List.setIfInBounds_toArray, List.set_cons_zero, List.set_cons_succ]
    refine wpAnyH_ready (rs := [2]) (by kernel_rfl) (by simp) ?_
    refine AllReadyH.cons rfl (fun KK hK => ?_) AllReadyH.nil
    go_simp
    go_wp2_with (first | (go_at_call 98; refine (HCU.out _ (HB1.out.trans (Below.mono (by repeat (first | with_reducible exact Below.refl _ _ | with_reducible refine Below.setCell ?_ (by first | omega | (simp; done) | (simp; omega)) _ | with_reducible refine bDrewN ?_ _ | with_reducible refine Below.drew ?_ | with_reducible refine Below.alloc ?_ (by first | omega | (simp; done) | (simp; omega)) _)) HB1.out.size))).mono ?_; rintro e wz ⟨rfl, h8⟩; have B8 : Below w1.heap.size w1 wz := Below.trans (by repeat (first | with_reducible exact Below.refl _ _ | with_reducible refine Below.setCell ?_ (by first | omega | (simp; done) | (simp; omega)) _ | with_reducible refine bDrewN ?_ _ | with_reducible refine Below.drew ?_ | with_reducible refine Below.alloc ?_ (by first | omega | (simp; done) | (simp; omega)) _)) (h8.mono (by first | omega | (simp; done) | (simp; omega))); have s8 := B8.size; clear h8))
    refine hK.out _ _ (keep3P p0 p1 q0 zp zq B8) (fun hHeld => ?_)
    clear hK KK
    refine wpAnyH_take (i := 4) (v := .bool false) rfl (by kernel_rfl) (by kernel_rfl) (by kernel_rfl) (fun _ _ _ h => h) (Or.inl ⟨by kernel_rfl, ?_⟩) hHeld ?_
    · intro w' hSw
      obtain ⟨s0, s1, s2⟩ := hSw
      first | (go_simp; done) | (go_simp; with_reducible rfl) | (go_simp; rw [IntKind.wrap_i64]; omega) | (go_simp; omega)
    simp only [Act.put, List.setIfInBounds_toArray, List.set_cons_zero, List.set_cons_succ]
    refine wpAnyH_ready (rs := [5]) (by kernel_rfl) (by simp) ?_
    refine AllReadyH.cons rfl (fun KK hK => ?_) AllReadyH.nil
    go_simp
    refine hK.out _ _ hHeld (fun hHeld => ?_)
    clear hK KK
    refine wpAnyH_done (by kernel_rfl) ?_ _
    clear hHeld
    have B1 : Below w.heap.size w wz := HB1.out.trans (B8.mono HB1.out.size)
    clear t1 t1b t1c
    go_wp2
    go_ret
    exact ⟨_, rfl, Or.inl ⟨HO.out, rfl⟩, (by repeat (first | with_reducible exact Below.refl _ _ | with_reducible exact B1 | with_reducible refine Below.setCell ?_ (by first | omega | (simp; done) | (simp; omega)) _ | with_reducible refine bDrewN ?_ _ | with_reducible refine Below.drew ?_ | with_reducible refine Below.alloc ?_ (by first | omega | (simp; done) | (simp; omega)) _))⟩
set_option maxRecDepth 20000 in
set_option maxHeartbeats 4000000 in
theorem planMisfit_any (s t : Option Addr) (n c d : Nat) (X : Nat → Int) (K : Nat → Nat) (V : Nat → Nat → Int) (B : Nat → Int) (cr : Int) (w : World) (hn : (n : Int) ≤ 40) (HK : Hid (∀ i, i < n → (K i : Int) ≤ 1048576)) (HR : Hid (RowJbs w s n X K V)) (HT : Hid (RowI w t n B)) (HG : Hid (∀ j, j < n → (1 ≤ X j ∧ X j ≤ 1000) ∧ 0 ≤ B j ∧ B j ≤ 1000000000)) (HV : Hid (∀ j, j < n → ∀ i, i < K j → 0 ≤ V j i ∧ V j i < (n : Int))) (HE : Hid (ErrS w)) :
    Calls Tryd.prog 78 #[.agg #[.slice s n c, .slice t n d], .int .i64 cr] w fun e w' => ∃ v, e = .returned v ∧ MisV v (decide (∀ j, j < n → plnB n X K V cr B j = true)) ∧ Below w.heap.size w w' := by
  go_enter Tryd.func78, Tryd.ntmps78
  go_upto_region 1 with fail
  obtain ⟨wa, hwa⟩ : ∃ wa, wa = (w.alloc (.cells #[.slice s n c, .slice t n d] 111)).alloc (.cells #[.int .i64 cr] 2) := ⟨_, rfl⟩
  rw [← hwa]
  have hb : Below w.heap.size w wa := by rw [hwa]; exact (by repeat (first | with_reducible exact Below.refl _ _ | with_reducible refine Below.setCell ?_ (by first | omega | (simp; done) | (simp; omega)) _ | with_reducible refine bDrewN ?_ _ | with_reducible refine Below.drew ?_ | with_reducible refine Below.alloc ?_ (by first | omega | (simp; done) | (simp; omega)) _))
  have a0 : wa.cell? ⟨w.heap.size, 0, none⟩ = some (.slice s n c) := by rw [hwa]; simp [go_sem]
  have a1 : wa.cell? ⟨w.heap.size, 1, none⟩ = some (.slice t n d) := by rw [hwa]; simp [go_sem]
  have a2 : wa.cell? ⟨w.heap.size + 1, 0, none⟩ = some (.int .i64 cr) := by rw [hwa]; simp [go_sem]
  have za : w.heap.size < wa.heap.size := by rw [hwa]; simp; try omega
  have zb : w.heap.size + 1 < wa.heap.size := by rw [hwa]; simp
  have HB : Hid (Below w.heap.size w wa) := hb
  have HC : Hid (∀ (k : Nat) w', k < n → Below wa.heap.size wa w' → Calls Tryd.prog 97 (#[.int .i64 k] ++ #[.pointer (some ⟨w.heap.size, 0, none⟩), .pointer (some ⟨w.heap.size + 1, 0, none⟩)]) w' fun e w2 => ∃ v, e = .returned v ∧ ErrV v (plnB n X K V cr B k) ∧ Below w'.heap.size w' w2) := fun k w' hk hx =>
    plan1_any w.heap.size (w.heap.size + 1) s t n c d X K V B cr k w' hk hn (HK.out k hk) (Nat.lt_of_lt_of_le za hx.size) (Nat.lt_of_lt_of_le zb hx.size) ((hx.cell (p := ⟨w.heap.size, 0, none⟩) za).trans a0) ((hx.cell (p := ⟨w.heap.size, 1, none⟩) za).trans a1) ((hx.cell (p := ⟨w.heap.size + 1, 0, none⟩) zb).trans a2)
      ((HR.out.below HB.out).below hx) ((HT.out.below HB.out).below hx) HG HV ((HE.out.below HB.out).below hx)
  clear hwa hb
  go_wp2_with fail
  refine (firstMisfit_any n 97 _ (fun k => plnB n X K V cr B k) _ (by omega) (fun _ _ => by kernel_rfl) HC).mono ?_
  rintro e w1 ⟨v, rfl, hv, hx⟩
  have B1 : Below w.heap.size w w1 := HB.out.trans (hx.mono HB.out.size)
  have HVV : Hid (MisV v (decide (∀ j, j < n → plnB n X K V cr B j = true))) := hv
  clear hv hx
  go_wp2
  go_ret
  exact retMisJ HVV.out B1
set_option maxRecDepth 20000 in
set_option maxHeartbeats 8000000 in
theorem implScheduleOk_any (s t : Option Addr) (n c m d : Nat) (X : Nat → Int) (K : Nat → Nat) (V : Nat → Nat → Int) (cr : Int) (B : Nat → Int) (w : World) (hn : (n : Int) ≤ 1048576) (hm : (m : Int) ≤ 1048576) (HK : Hid (∀ i, i < n → (K i : Int) ≤ 1048576)) (HR : Hid (RowJbs w s n X K V)) (HT : Hid (RowI w t m B)) (HE : Hid (ErrS w)) :
    Calls Tryd.prog 44 #[.slice s n c, .int .i64 cr, .slice t m d] w fun e w' => e = .returned (.bool (schB n X K V cr m B)) ∧ Below w.heap.size w w' := by
  have HX : Hid (∀ w1, Below w.heap.size w w1 → ErrS w1) := fun w1 hb => HE.out.below hb
  go_enter Tryd.func44, Tryd.ntmps44
  go_wp2_with fail
  refine (jobsMisfit_any s n c X K V _ hn HK HR HE.out.jobs).mono ?_
  rintro e w1 ⟨v, rfl, hv, h1⟩
  have HV : Hid (MisV v (jobsB n X K V)) := hv
  have B1 : Below w.heap.size w w1 := h1
  clear hv h1
  go_wp2_with fail
  refine (refused_any v (jobsB n X K V) _ HV (HX.out _ B1).1).mono ?_
  rintro e w2 ⟨rfl, h2⟩
  replace B1 : Below w.heap.size w w2 := B1.trans (h2.mono B1.size)
  clear h2 HV
  cases hc : jobsB n X K V
  · have HO : Hid (schB n X K V cr m B = false) := by show _ = _; unfold schB; rw [hc]; rfl
    go_wp2
    go_ret
    exact ⟨ret_bool HO.out.symm, B1⟩
  go_wp2_with fail
  refine (within_is _ _ _ _).mono ?_
  rintro e w2 ⟨rfl, rfl⟩
  cases h0 : inB 1 10 cr
  · have HO : Hid (schB n X K V cr m B = false) := by show _ = _; unfold schB; rw [hc, h0]; rfl
    go_wp2
    go_ret
    exact ⟨ret_bool HO.out.symm, B1⟩
  by_cases nm : m = n
  case neg =>
    have b2 : decide ((m : Int) = (n : Int)) = false := decide_eq_false (by omega)
    have HO : Hid (schB n X K V cr m B = false) := by show _ = _; unfold schB; rw [hc, h0, decide_eq_false nm]; rfl
    go_wp2
    go_ret
    exact ⟨ret_bool HO.out.symm, B1⟩
  subst nm
  have n4 := (jobs_yes hc).1
  have n5 : (m : Int) ≤ 40 := by omega
  have HJ := (jobs_yes hc).2
  have HO1 : Hid (schB m X K V cr m B = (allInB 0 100000 B m && decide (∀ j, j < m → plnB m X K V cr B j = true))) := by show _ = _; unfold schB; rw [hc, h0, decide_eq_true rfl]; rfl
  have HGJ : Hid (∀ j, j < m → (1 ≤ X j ∧ X j ≤ 1000)) := fun j hj => (job_yes (HJ j hj)).1
  have HGV : Hid (∀ j, j < m → ∀ i, i < K j → 0 ≤ V j i ∧ V j i < (m : Int)) := fun j hj i hi => by have := (job_yes (HJ j hj)).2.2 i hi; omega
  clear hc h0 HJ
  go_upto_region 4 with fail
  obtain ⟨wa, hwa⟩ : ∃ wa, wa = w2.alloc (.cells #[.slice s m c, .slice t m d] 111) := ⟨_, rfl⟩
  rw [← hwa]
  have hb : Below w2.heap.size w2 wa := by rw [hwa]; exact below0 _ _
  have a0 : wa.cell? ⟨w2.heap.size, 0, none⟩ = some (.slice s m c) := by rw [hwa]; simp [go_sem]
  have a1 : wa.cell? ⟨w2.heap.size, 1, none⟩ = some (.slice t m d) := by rw [hwa]; simp [go_sem]
  have HB : Hid (Below w.heap.size w wa) := B1.trans (hb.mono B1.size)
  clear hwa hb B1
  go_wp2_with fail
  refine (allWithin_any t m d B _ _ _ hm (HT.out.below HB.out)).mono ?_
  rintro e wa ⟨rfl, rfl⟩
  have B1 := HB.out
  cases h3 : allInB 0 100000 B m
  · have HO : Hid (schB m X K V cr m B = false) := by show _ = _; rw [HO1.out, h3]; rfl
    go_wp2
    go_ret
    exact ⟨ret_bool HO.out.symm, (by repeat (first | with_reducible exact Below.refl _ _ | with_reducible exact B1 | with_reducible refine Below.setCell ?_ (by first | omega | (simp; done) | (simp; omega)) _ | with_reducible refine bDrewN ?_ _ | with_reducible refine Below.drew ?_ | with_reducible refine Below.alloc ?_ (by first | omega | (simp; done) | (simp; omega)) _))⟩
  have HO2 : Hid (schB m X K V cr m B = decide (∀ j, j < m → plnB m X K V cr B j = true)) := by show _ = _; rw [HO1.out, h3]; rfl
  have HG : Hid (∀ j, j < m → (1 ≤ X j ∧ X j ≤ 1000) ∧ 0 ≤ B j ∧ B j ≤ 1000000000) := fun j hj => ⟨HGJ.out j hj, by have := allIn_yes h3.symm j hj; omega⟩
  clear h3 HO1
  go_wp2_with fail
  refine (planMisfit_any s t m c d X K V B cr _ n5 HK (HR.out.below B1) (HT.out.below B1) HG HGV (HX.out _ B1)).mono ?_
  rintro e w5 ⟨v5, rfl, hv, h5⟩
  have HV5 : Hid (MisV v5 (decide (∀ j, j < m → plnB m X K V cr B j = true))) := hv
  replace B1 : Below w.heap.size w w5 := B1.trans (h5.mono B1.size)
  clear hv h5 a0 a1
  obtain ⟨r, hr⟩ : ∃ r, decide (∀ j, j < m → plnB m X K V cr B j = true) = r := ⟨_, rfl⟩
  rw [hr] at HV5 HO2
  clear hr
  go_wp2_with fail
  refine (refused_any v5 r _ HV5 (HX.out _ B1).1).mono ?_
  rintro e w6 ⟨rfl, h6⟩
  replace B1 : Below w.heap.size w w6 := B1.trans (h6.mono B1.size)
  clear h6
  cases r
  · go_wp2
    go_ret
    exact ⟨ret_bool HO2.out.symm, (by repeat (first | with_reducible exact Below.refl _ _ | with_reducible exact B1 | with_reducible refine Below.setCell ?_ (by first | omega | (simp; done) | (simp; omega)) _ | with_reducible refine bDrewN ?_ _ | with_reducible refine Below.drew ?_ | with_reducible refine Below.alloc ?_ (by first | omega | (simp; done) | (simp; omega)) _))⟩
  · go_wp2
    go_ret
    exact ⟨ret_bool HO2.out.symm, (by repeat (first | with_reducible exact Below.refl _ _ | with_reducible exact B1 | with_reducible refine Below.setCell ?_ (by first | omega | (simp; done) | (simp; omega)) _ | with_reducible refine bDrewN ?_ _ | with_reducible refine Below.drew ?_ | with_reducible refine Below.alloc ?_ (by first | omega | (simp; done) | (simp; omega)) _))⟩
end Go.Proofs.YtfhbkfdfggaomaaDoor
