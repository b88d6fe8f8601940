/-
What is proved: what the program's machine does at a keep and at an op.
-/
import Derived.Test.YtdidgbibbkhnhaaExD
import Derived.Deep.RegionWith
namespace Go.Proofs.Ytdidgbibbkhnhaa
set_option maxRecDepth 40000
open Go.RowKit
set_option linter.unusedVariables false
set_option linter.unusedSimpArgs false

set_option maxRecDepth 20000 in
set_option maxHeartbeats 8000000 in
theorem do_5 (w0 : World) (p lo b nw a : Nat) (so : Option Addr) (ca : Nat) (si : Option Addr) (ni ci : Nat) (v : Value) (h : Nat) (F N : Nat → Int) (w : World) (ht : 2 ≤ h) (hh : h ≤ 10) (hF : ∀ j, j < h → -1000000 ≤ F j ∧ F j ≤ 1000000) (HM : Hid (MaAt w0 p lo b nw a so ca si ni ci w v h F N)) : Calls Try.prog 54 #[.pointer (some ⟨p, 0, none⟩), .int .i64 5] w fun e w' => e = .returned (.tuple #[]) ∧ ∃ v', MaAt w0 p lo b nw a so ca si ni ci w' v' (h - 2 + 1) (puF F (h - 2) (clipV (gvV 5 (F (h - 2)) (F (h - 2 + 1)) (F (h - 2 + 2))))) N := by
  obtain ⟨-, -, z, f, ⟨c0, -, -, -, -⟩, kt, -, -⟩ := HM.out
  obtain ⟨-, zb, kc⟩ := kt
  obtain ⟨k0, k1, ⟨gt, k2, -, -⟩, k3, k4⟩ := kc 4 (by omega)
  have m0 : w.cell? ⟨b, 20, none⟩ = some (.int .i64 5) := k0
  have m1 : w.cell? ⟨b, 21, none⟩ = some (.string ⟨#[97, 110, 100]⟩) := k1
  have m2 : w.cell? ⟨b, 22, none⟩ = some (.slice gt 2 2) := k2
  have m3 : w.cell? ⟨b, 23, none⟩ = some (.int .i64 0) := k3
  have m4 : w.cell? ⟨b, 24, none⟩ = some (.iface 93 (.agg #[])) := k4
  clear k0 k1 k2 k3 k4 kc f
  go_enter Try.func54, Try.ntmps54
  go_upto_region 1 with fail
  obtain ⟨wd, hwd⟩ : ∃ wd, wd = w.alloc (.cells #[.int .i64 5, .string ⟨#[97, 110, 100]⟩, .slice gt 2 2, .int .i64 0, .iface 93 (.agg #[])] 91) := ⟨_, rfl⟩
  rw [← hwd]
  have bd : Below w.heap.size w wd := by rw [hwd]; exact (by repeat (first | with_reducible exact Below.refl _ _ | with_reducible refine Below.setCell ?_ (by first | omega | (simp; done) | (simp; omega)) _ | with_reducible refine bDrewN ?_ _ | with_reducible refine Below.drew ?_ | with_reducible refine Below.alloc ?_ (by first | omega | (simp; done) | (simp; omega)) _))
  have q2 : wd.cell? ⟨w.heap.size, 2, none⟩ = some (.slice gt 2 2) := by rw [hwd]; simp [go_sem]
  have q4 : wd.cell? ⟨w.heap.size, 4, none⟩ = some (.iface 93 (.agg #[])) := by rw [hwd]; simp [go_sem]
  have z4 : w.heap.size < wd.heap.size := by rw [hwd]; simp
  have HD : Hid (MaAt w0 p lo b nw a so ca si ni ci wd v h F N) := HM.out.below bd
  have np : w.heap.size ≠ p := by omega
  clear hwd m0 m1 m2 m3 m4 bd c0
  refine wp_region_held_drew (S := fun W' => W'.cell? ⟨w.heap.size, 2, none⟩ = some (.slice gt 2 2) ∧ W'.cell? ⟨w.heap.size, 4, none⟩ = some (.iface 93 (.agg #[]))) (by kernel_rfl) ⟨by simpa [go_sem] using q2, by simpa [go_sem] using q4⟩ (fun hHeld => ?_)
  refine wpAnyH_take (i := 0) (v := .pointer (some ⟨w.heap.size, 4, none⟩)) rfl (by kernel_rfl) (by kernel_rfl) (by kernel_rfl) (fun _ _ _ h => h) (Or.inl ⟨by kernel_rfl, ?_⟩) hHeld ?_
  · intro w' hSw
    obtain ⟨s0, s1⟩ := hSw
    first | (go_simp; done) | (go_simp; with_reducible rfl)
  simp only [Act.put, List.setIfInBounds_toArray, List.set_cons_zero, List.set_cons_succ]
  refine wpAnyH_take (i := 1) (v := .iface 93 (.agg #[])) rfl (by kernel_rfl) (by kernel_rfl) (by kernel_rfl) (fun _ _ _ h => h) (Or.inl ⟨by kernel_rfl, ?_⟩) hHeld ?_
  · intro w' hSw
    obtain ⟨s0, s1⟩ := hSw
    first | (go_simp; done) | (go_simp; with_reducible rfl)
  simp only [Act.put, List.setIfInBounds_toArray, List.set_cons_zero, List.set_cons_succ]
  refine wpAnyH_take (i := 2) (v := .pointer (some ⟨p, 0, none⟩)) rfl (by kernel_rfl) (by kernel_rfl) (by kernel_rfl) (fun _ _ _ h => h) (Or.inl ⟨by kernel_rfl, ?_⟩) hHeld ?_
  · intro w' hSw
    obtain ⟨s0, s1⟩ := hSw
    first | (go_simp; done) | (go_simp; with_reducible rfl)
  simp only [Act.put, List.setIfInBounds_toArray, List.set_cons_zero, List.set_cons_succ]
  refine wpAnyH_take (i := 3) (v := .pointer (some ⟨w.heap.size, 2, none⟩)) rfl (by kernel_rfl) (by kernel_rfl) (by kernel_rfl) (fun _ _ _ h => h) (Or.inl ⟨by kernel_rfl, ?_⟩) hHeld ?_
  · intro w' hSw
    obtain ⟨s0, s1⟩ := hSw
    first | (go_simp; done) | (go_simp; with_reducible rfl)
  simp only [Act.put, List.setIfInBounds_toArray, List.set_cons_zero, List.set_cons_succ]
  refine wpAnyH_take (i := 4) (v := .slice gt 2 2) rfl (by kernel_rfl) (by kernel_rfl) (by kernel_rfl) (fun _ _ _ h => h) (Or.inl ⟨by kernel_rfl, ?_⟩) hHeld ?_
  · intro w' hSw
    obtain ⟨s0, s1⟩ := hSw
    first | (go_simp; done) | (go_simp; with_reducible rfl)
  simp only [Act.put, List.setIfInBounds_toArray, List.set_cons_zero, List.set_cons_succ]
  refine wpAnyH_take (i := 5) (v := .int .i64 2) rfl (by kernel_rfl) (by kernel_rfl) (by kernel_rfl) (fun _ _ _ h => h) (Or.inl ⟨by kernel_rfl, ?_⟩) hHeld ?_
  · intro w' hSw
    obtain ⟨s0, s1⟩ := hSw
    first | (go_simp; done) | (go_simp; with_reducible rfl)
  simp only [Act.put, List.setIfInBounds_toArray, List.set_cons_zero, List.set_cons_succ]
  refine wpAnyH_take (i := 7) (v := .iface 93 (.agg #[])) rfl (by kernel_rfl) (by kernel_rfl) (by kernel_rfl) (fun _ _ _ h => h) (Or.inl ⟨by kernel_rfl, ?_⟩) hHeld ?_
  · intro w' hSw
    obtain ⟨s0, s1⟩ := hSw
    first | (go_simp; done) | (go_simp; with_reducible rfl)
  simp only [Act.put, List.setIfInBounds_toArray, List.set_cons_zero, List.set_cons_succ]
  refine wpAnyH_take (i := 8) (v := .iface 93 (.agg #[])) rfl (by kernel_rfl) (by kernel_rfl) (by kernel_rfl) (fun _ _ _ h => h) (Or.inl ⟨by kernel_rfl, ?_⟩) hHeld ?_
  · intro w' hSw
    obtain ⟨s0, s1⟩ := hSw
    first | (go_simp; done) | (go_simp; with_reducible rfl)
  simp only [Act.put, List.setIfInBounds_toArray, List.set_cons_zero, List.set_cons_succ]
  refine wpAnyH_ready (rs := [6]) (by kernel_rfl) (by simp) ?_
  refine AllReadyH.cons rfl (fun K hK => ?_) AllReadyH.nil
  go_simp
  go_wp2_with (first | (go_at_call 61; refine (take_any w0 p lo b nw a so ca si ni ci v h F N 2 _ (by omega) ht hh (HD.out.below (by repeat (first | with_reducible exact Below.refl _ _ | with_reducible refine Below.setCell ?_ (by first | omega | (simp; done) | (simp; omega)) _ | with_reducible refine bDrewN ?_ _ | with_reducible refine Below.drew ?_ | with_reducible refine Below.alloc ?_ (by first | omega | (simp; done) | (simp; omega)) _)))).mono ?_; rintro e w3 ⟨g, cc, rfl, zg3, pg, hcg, hbs, v', hma⟩; have HMA : Hid (MaAt w0 p lo b nw a so ca si ni ci w3 v' (h - 2) F N) := hma; clear hma))
  have e0 := hcg 0 (by omega)
  rw [Nat.add_zero] at e0
  have e1 := hcg 1 (by omega)
  obtain ⟨A, hA⟩ : ∃ x, F (h - 2) = x := ⟨_, rfl⟩
  rw [hA] at e0
  have rA := hF (h - 2) (by omega)
  rw [hA] at rA
  have HA : Hid (F (h - 2) = A) := hA
  clear hA
  obtain ⟨B, hB⟩ : ∃ x, F (h - 2 + 1) = x := ⟨_, rfl⟩
  rw [hB] at e1
  have rB := hF (h - 2 + 1) (by omega)
  rw [hB] at rB
  have HB : Hid (F (h - 2 + 1) = B) := hB
  clear hB
  have y2 : w3.cell? ⟨w.heap.size, 2, none⟩ = some (.slice gt 2 2) := (hbs.cell (p := ⟨w.heap.size, 2, none⟩) (by simpa using z4) np).trans (by simpa [go_sem] using q2)
  have y4 : w3.cell? ⟨w.heap.size, 4, none⟩ = some (.iface 93 (.agg #[])) := (hbs.cell (p := ⟨w.heap.size, 4, none⟩) (by simpa using z4) np).trans (by simpa [go_sem] using q4)
  have z43 : w.heap.size < w3.heap.size := Nat.lt_of_lt_of_le (by simpa using z4) hbs.2.2.2.1
  clear hcg hbs
  refine hK.out _ _ ⟨y2, y4⟩ (fun hHeld => ?_)
  clear hK K
  refine wpAnyH_ready (rs := [9]) (by kernel_rfl) (by simp) ?_
  refine AllReadyH.cons rfl (fun K hK => ?_) AllReadyH.nil
  go_simp
  refine upon_go (a := (80, Value.agg #[])) (w' := w3) (by kernel_rfl) ?_
  go_wp2_with (first | (go_at_call 80; refine (work_5 g (h - 2) cc A B 0 _ rA.1 rA.2 rB.1 rB.2 zg3 e0 e1).mono ?_; rintro e w4 ⟨rfl, h4⟩))
  have x2 : w4.cell? ⟨w.heap.size, 2, none⟩ = some (.slice gt 2 2) := (h4.cell (p := ⟨w.heap.size, 2, none⟩) z43).trans y2
  have x4 : w4.cell? ⟨w.heap.size, 4, none⟩ = some (.iface 93 (.agg #[])) := (h4.cell (p := ⟨w.heap.size, 4, none⟩) z43).trans y4
  have HM4 : Hid (MaAt w0 p lo b nw a so ca si ni ci w4 v' (h - 2) F N) := HMA.out.below h4
  clear h4
  refine hK.out _ _ ⟨x2, x4⟩ (fun hHeld => ?_)
  clear hK K
  refine wpAnyH_ready (rs := [10]) (by kernel_rfl) (by simp) ?_
  refine AllReadyH.cons rfl (fun K hK => ?_) AllReadyH.nil
  go_simp
  refine hK.out _ _ ⟨x2, x4⟩ (fun hHeld => ?_)
  clear hK K hHeld
  refine wpAnyH_done (by kernel_rfl) ?_ _
  obtain ⟨G, hG⟩ : ∃ G, gvV 5 A B 0 = G := ⟨_, rfl⟩
  rw [hG]
  have HG : Hid (gvV 5 (F (h - 2)) (F (h - 2 + 1)) (F (h - 2 + 2)) = G) := by show _ = _; rw [HA.out, HB.out]; exact hG
  clear hG x2 x4 y2 y4 q2 q4 e0 e1
  go_wp2_with fail
  refine (bounded_any G (-1000000) 1000000 _).mono ?_
  rintro e w5 ⟨rfl, rfl⟩
  rw [show max (-1000000) (min G 1000000) = clipV G from rfl]
  go_wp2_with fail
  refine (lay_any w0 p lo b nw a so ca si ni ci v' (h - 2) F N (clipV G) _ (by omega) HM4).mono ?_
  rintro e w6 ⟨rfl, v6, hx⟩
  have HX : Hid (MaAt w0 p lo b nw a so ca si ni ci w6 v6 (h - 2 + 1) (puF F (h - 2) (clipV G)) N) := hx
  clear hx
  go_wp2
  go_end0
  exact ⟨rfl, v6, by rw [HG.out]; exact HX.out⟩
set_option maxRecDepth 20000 in
set_option maxHeartbeats 8000000 in
theorem do_6 (w0 : World) (p lo b nw a : Nat) (so : Option Addr) (ca : Nat) (si : Option Addr) (ni ci : Nat) (v : Value) (h : Nat) (F N : Nat → Int) (w : World) (ht : 2 ≤ h) (hh : h ≤ 10) (hF : ∀ j, j < h → -1000000 ≤ F j ∧ F j ≤ 1000000) (HM : Hid (MaAt w0 p lo b nw a so ca si ni ci w v h F N)) : Calls Try.prog 54 #[.pointer (some ⟨p, 0, none⟩), .int .i64 6] w fun e w' => e = .returned (.tuple #[]) ∧ ∃ v', MaAt w0 p lo b nw a so ca si ni ci w' v' (h - 2 + 1) (puF F (h - 2) (clipV (gvV 6 (F (h - 2)) (F (h - 2 + 1)) (F (h - 2 + 2))))) N := by
  obtain ⟨-, -, z, f, ⟨c0, -, -, -, -⟩, kt, -, -⟩ := HM.out
  obtain ⟨-, zb, kc⟩ := kt
  obtain ⟨k0, k1, ⟨gt, k2, -, -⟩, k3, k4⟩ := kc 5 (by omega)
  have m0 : w.cell? ⟨b, 25, none⟩ = some (.int .i64 6) := k0
  have m1 : w.cell? ⟨b, 26, none⟩ = some (.string ⟨#[111, 114]⟩) := k1
  have m2 : w.cell? ⟨b, 27, none⟩ = some (.slice gt 2 2) := k2
  have m3 : w.cell? ⟨b, 28, none⟩ = some (.int .i64 0) := k3
  have m4 : w.cell? ⟨b, 29, none⟩ = some (.iface 94 (.agg #[])) := k4
  clear k0 k1 k2 k3 k4 kc f
  go_enter Try.func54, Try.ntmps54
  go_upto_region 1 with fail
  obtain ⟨wd, hwd⟩ : ∃ wd, wd = w.alloc (.cells #[.int .i64 6, .string ⟨#[111, 114]⟩, .slice gt 2 2, .int .i64 0, .iface 94 (.agg #[])] 91) := ⟨_, rfl⟩
  rw [← hwd]
  have bd : Below w.heap.size w wd := by rw [hwd]; exact (by repeat (first | with_reducible exact Below.refl _ _ | with_reducible refine Below.setCell ?_ (by first | omega | (simp; done) | (simp; omega)) _ | with_reducible refine bDrewN ?_ _ | with_reducible refine Below.drew ?_ | with_reducible refine Below.alloc ?_ (by first | omega | (simp; done) | (simp; omega)) _))
  have q2 : wd.cell? ⟨w.heap.size, 2, none⟩ = some (.slice gt 2 2) := by rw [hwd]; simp [go_sem]
  have q4 : wd.cell? ⟨w.heap.size, 4, none⟩ = some (.iface 94 (.agg #[])) := by rw [hwd]; simp [go_sem]
  have z4 : w.heap.size < wd.heap.size := by rw [hwd]; simp
  have HD : Hid (MaAt w0 p lo b nw a so ca si ni ci wd v h F N) := HM.out.below bd
  have np : w.heap.size ≠ p := by omega
  clear hwd m0 m1 m2 m3 m4 bd c0
  refine wp_region_held_drew (S := fun W' => W'.cell? ⟨w.heap.size, 2, none⟩ = some (.slice gt 2 2) ∧ W'.cell? ⟨w.heap.size, 4, none⟩ = some (.iface 94 (.agg #[]))) (by kernel_rfl) ⟨by simpa [go_sem] using q2, by simpa [go_sem] using q4⟩ (fun hHeld => ?_)
  refine wpAnyH_take (i := 0) (v := .pointer (some ⟨w.heap.size, 4, none⟩)) rfl (by kernel_rfl) (by kernel_rfl) (by kernel_rfl) (fun _ _ _ h => h) (Or.inl ⟨by kernel_rfl, ?_⟩) hHeld ?_
  · intro w' hSw
    obtain ⟨s0, s1⟩ := hSw
    first | (go_simp; done) | (go_simp; with_reducible rfl)
  simp only [Act.put, List.setIfInBounds_toArray, List.set_cons_zero, List.set_cons_succ]
  refine wpAnyH_take (i := 1) (v := .iface 94 (.agg #[])) rfl (by kernel_rfl) (by kernel_rfl) (by kernel_rfl) (fun _ _ _ h => h) (Or.inl ⟨by kernel_rfl, ?_⟩) hHeld ?_
  · intro w' hSw
    obtain ⟨s0, s1⟩ := hSw
    first | (go_simp; done) | (go_simp; with_reducible rfl)
  simp only [Act.put, List.setIfInBounds_toArray, List.set_cons_zero, List.set_cons_succ]
  refine wpAnyH_take (i := 2) (v := .pointer (some ⟨p, 0, none⟩)) rfl (by kernel_rfl) (by kernel_rfl) (by kernel_rfl) (fun _ _ _ h => h) (Or.inl ⟨by kernel_rfl, ?_⟩) hHeld ?_
  · intro w' hSw
    obtain ⟨s0, s1⟩ := hSw
    first | (go_simp; done) | (go_simp; with_reducible rfl)
  simp only [Act.put, List.setIfInBounds_toArray, List.set_cons_zero, List.set_cons_succ]
  refine wpAnyH_take (i := 3) (v := .pointer (some ⟨w.heap.size, 2, none⟩)) rfl (by kernel_rfl) (by kernel_rfl) (by kernel_rfl) (fun _ _ _ h => h) (Or.inl ⟨by kernel_rfl, ?_⟩) hHeld ?_
  · intro w' hSw
    obtain ⟨s0, s1⟩ := hSw
    first | (go_simp; done) | (go_simp; with_reducible rfl)
  simp only [Act.put, List.setIfInBounds_toArray, List.set_cons_zero, List.set_cons_succ]
  refine wpAnyH_take (i := 4) (v := .slice gt 2 2) rfl (by kernel_rfl) (by kernel_rfl) (by kernel_rfl) (fun _ _ _ h => h) (Or.inl ⟨by kernel_rfl, ?_⟩) hHeld ?_
  · intro w' hSw
    obtain ⟨s0, s1⟩ := hSw
    first | (go_simp; done) | (go_simp; with_reducible rfl)
  simp only [Act.put, List.setIfInBounds_toArray, List.set_cons_zero, List.set_cons_succ]
  refine wpAnyH_take (i := 5) (v := .int .i64 2) rfl (by kernel_rfl) (by kernel_rfl) (by kernel_rfl) (fun _ _ _ h => h) (Or.inl ⟨by kernel_rfl, ?_⟩) hHeld ?_
  · intro w' hSw
    obtain ⟨s0, s1⟩ := hSw
    first | (go_simp; done) | (go_simp; with_reducible rfl)
  simp only [Act.put, List.setIfInBounds_toArray, List.set_cons_zero, List.set_cons_succ]
  refine wpAnyH_take (i := 7) (v := .iface 94 (.agg #[])) rfl (by kernel_rfl) (by kernel_rfl) (by kernel_rfl) (fun _ _ _ h => h) (Or.inl ⟨by kernel_rfl, ?_⟩) hHeld ?_
  · intro w' hSw
    obtain ⟨s0, s1⟩ := hSw
    first | (go_simp; done) | (go_simp; with_reducible rfl)
  simp only [Act.put, List.setIfInBounds_toArray, List.set_cons_zero, List.set_cons_succ]
  refine wpAnyH_take (i := 8) (v := .iface 94 (.agg #[])) rfl (by kernel_rfl) (by kernel_rfl) (by kernel_rfl) (fun _ _ _ h => h) (Or.inl ⟨by kernel_rfl, ?_⟩) hHeld ?_
  · intro w' hSw
    obtain ⟨s0, s1⟩ := hSw
    first | (go_simp; done) | (go_simp; with_reducible rfl)
  simp only [Act.put, List.setIfInBounds_toArray, List.set_cons_zero, List.set_cons_succ]
  refine wpAnyH_ready (rs := [6]) (by kernel_rfl) (by simp) ?_
  refine AllReadyH.cons rfl (fun K hK => ?_) AllReadyH.nil
  go_simp
  go_wp2_with (first | (go_at_call 61; refine (take_any w0 p lo b nw a so ca si ni ci v h F N 2 _ (by omega) ht hh (HD.out.below (by repeat (first | with_reducible exact Below.refl _ _ | with_reducible refine Below.setCell ?_ (by first | omega | (simp; done) | (simp; omega)) _ | with_reducible refine bDrewN ?_ _ | with_reducible refine Below.drew ?_ | with_reducible refine Below.alloc ?_ (by first | omega | (simp; done) | (simp; omega)) _)))).mono ?_; rintro e w3 ⟨g, cc, rfl, zg3, pg, hcg, hbs, v', hma⟩; have HMA : Hid (MaAt w0 p lo b nw a so ca si ni ci w3 v' (h - 2) F N) := hma; clear hma))
  have e0 := hcg 0 (by omega)
  rw [Nat.add_zero] at e0
  have e1 := hcg 1 (by omega)
  obtain ⟨A, hA⟩ : ∃ x, F (h - 2) = x := ⟨_, rfl⟩
  rw [hA] at e0
  have rA := hF (h - 2) (by omega)
  rw [hA] at rA
  have HA : Hid (F (h - 2) = A) := hA
  clear hA
  obtain ⟨B, hB⟩ : ∃ x, F (h - 2 + 1) = x := ⟨_, rfl⟩
  rw [hB] at e1
  have rB := hF (h - 2 + 1) (by omega)
  rw [hB] at rB
  have HB : Hid (F (h - 2 + 1) = B) := hB
  clear hB
  have y2 : w3.cell? ⟨w.heap.size, 2, none⟩ = some (.slice gt 2 2) := (hbs.cell (p := ⟨w.heap.size, 2, none⟩) (by simpa using z4) np).trans (by simpa [go_sem] using q2)
  have y4 : w3.cell? ⟨w.heap.size, 4, none⟩ = some (.iface 94 (.agg #[])) := (hbs.cell (p := ⟨w.heap.size, 4, none⟩) (by simpa using z4) np).trans (by simpa [go_sem] using q4)
  have z43 : w.heap.size < w3.heap.size := Nat.lt_of_lt_of_le (by simpa using z4) hbs.2.2.2.1
  clear hcg hbs
  refine hK.out _ _ ⟨y2, y4⟩ (fun hHeld => ?_)
  clear hK K
  refine wpAnyH_ready (rs := [9]) (by kernel_rfl) (by simp) ?_
  refine AllReadyH.cons rfl (fun K hK => ?_) AllReadyH.nil
  go_simp
  refine upon_go (a := (81, Value.agg #[])) (w' := w3) (by kernel_rfl) ?_
  go_wp2_with (first | (go_at_call 81; refine (work_6 g (h - 2) cc A B 0 _ rA.1 rA.2 rB.1 rB.2 zg3 e0 e1).mono ?_; rintro e w4 ⟨rfl, h4⟩))
  have x2 : w4.cell? ⟨w.heap.size, 2, none⟩ = some (.slice gt 2 2) := (h4.cell (p := ⟨w.heap.size, 2, none⟩) z43).trans y2
  have x4 : w4.cell? ⟨w.heap.size, 4, none⟩ = some (.iface 94 (.agg #[])) := (h4.cell (p := ⟨w.heap.size, 4, none⟩) z43).trans y4
  have HM4 : Hid (MaAt w0 p lo b nw a so ca si ni ci w4 v' (h - 2) F N) := HMA.out.below h4
  clear h4
  refine hK.out _ _ ⟨x2, x4⟩ (fun hHeld => ?_)
  clear hK K
  refine wpAnyH_ready (rs := [10]) (by kernel_rfl) (by simp) ?_
  refine AllReadyH.cons rfl (fun K hK => ?_) AllReadyH.nil
  go_simp
  refine hK.out _ _ ⟨x2, x4⟩ (fun hHeld => ?_)
  clear hK K hHeld
  refine wpAnyH_done (by kernel_rfl) ?_ _
  obtain ⟨G, hG⟩ : ∃ G, gvV 6 A B 0 = G := ⟨_, rfl⟩
  rw [hG]
  have HG : Hid (gvV 6 (F (h - 2)) (F (h - 2 + 1)) (F (h - 2 + 2)) = G) := by show _ = _; rw [HA.out, HB.out]; exact hG
  clear hG x2 x4 y2 y4 q2 q4 e0 e1
  go_wp2_with fail
  refine (bounded_any G (-1000000) 1000000 _).mono ?_
  rintro e w5 ⟨rfl, rfl⟩
  rw [show max (-1000000) (min G 1000000) = clipV G from rfl]
  go_wp2_with fail
  refine (lay_any w0 p lo b nw a so ca si ni ci v' (h - 2) F N (clipV G) _ (by omega) HM4).mono ?_
  rintro e w6 ⟨rfl, v6, hx⟩
  have HX : Hid (MaAt w0 p lo b nw a so ca si ni ci w6 v6 (h - 2 + 1) (puF F (h - 2) (clipV G)) N) := hx
  clear hx
  go_wp2
  go_end0
  exact ⟨rfl, v6, by rw [HG.out]; exact HX.out⟩
set_option maxRecDepth 20000 in
set_option maxHeartbeats 8000000 in
theorem do_7 (w0 : World) (p lo b nw a : Nat) (so : Option Addr) (ca : Nat) (si : Option Addr) (ni ci : Nat) (v : Value) (h : Nat) (F N : Nat → Int) (w : World) (ht : 2 ≤ h) (hh : h ≤ 10) (hF : ∀ j, j < h → -1000000 ≤ F j ∧ F j ≤ 1000000) (HM : Hid (MaAt w0 p lo b nw a so ca si ni ci w v h F N)) : Calls Try.prog 54 #[.pointer (some ⟨p, 0, none⟩), .int .i64 7] w fun e w' => e = .returned (.tuple #[]) ∧ ∃ v', MaAt w0 p lo b nw a so ca si ni ci w' v' (h - 2 + 1) (puF F (h - 2) (clipV (gvV 7 (F (h - 2)) (F (h - 2 + 1)) (F (h - 2 + 2))))) N := by
  obtain ⟨-, -, z, f, ⟨c0, -, -, -, -⟩, kt, -, -⟩ := HM.out
  obtain ⟨-, zb, kc⟩ := kt
  obtain ⟨k0, k1, ⟨gt, k2, -, -⟩, k3, k4⟩ := kc 6 (by omega)
  have m0 : w.cell? ⟨b, 30, none⟩ = some (.int .i64 7) := k0
  have m1 : w.cell? ⟨b, 31, none⟩ = some (.string ⟨#[120, 111, 114]⟩) := k1
  have m2 : w.cell? ⟨b, 32, none⟩ = some (.slice gt 2 2) := k2
  have m3 : w.cell? ⟨b, 33, none⟩ = some (.int .i64 0) := k3
  have m4 : w.cell? ⟨b, 34, none⟩ = some (.iface 95 (.agg #[])) := k4
  clear k0 k1 k2 k3 k4 kc f
  go_enter Try.func54, Try.ntmps54
  go_upto_region 1 with fail
  obtain ⟨wd, hwd⟩ : ∃ wd, wd = w.alloc (.cells #[.int .i64 7, .string ⟨#[120, 111, 114]⟩, .slice gt 2 2, .int .i64 0, .iface 95 (.agg #[])] 91) := ⟨_, rfl⟩
  rw [← hwd]
  have bd : Below w.heap.size w wd := by rw [hwd]; exact (by repeat (first | with_reducible exact Below.refl _ _ | with_reducible refine Below.setCell ?_ (by first | omega | (simp; done) | (simp; omega)) _ | with_reducible refine bDrewN ?_ _ | with_reducible refine Below.drew ?_ | with_reducible refine Below.alloc ?_ (by first | omega | (simp; done) | (simp; omega)) _))
  have q2 : wd.cell? ⟨w.heap.size, 2, none⟩ = some (.slice gt 2 2) := by rw [hwd]; simp [go_sem]
  have q4 : wd.cell? ⟨w.heap.size, 4, none⟩ = some (.iface 95 (.agg #[])) := by rw [hwd]; simp [go_sem]
  have z4 : w.heap.size < wd.heap.size := by rw [hwd]; simp
  have HD : Hid (MaAt w0 p lo b nw a so ca si ni ci wd v h F N) := HM.out.below bd
  have np : w.heap.size ≠ p := by omega
  clear hwd m0 m1 m2 m3 m4 bd c0
  refine wp_region_held_drew (S := fun W' => W'.cell? ⟨w.heap.size, 2, none⟩ = some (.slice gt 2 2) ∧ W'.cell? ⟨w.heap.size, 4, none⟩ = some (.iface 95 (.agg #[]))) (by kernel_rfl) ⟨by simpa [go_sem] using q2, by simpa [go_sem] using q4⟩ (fun hHeld => ?_)
  refine wpAnyH_take (i := 0) (v := .pointer (some ⟨w.heap.size, 4, none⟩)) rfl (by kernel_rfl) (by kernel_rfl) (by kernel_rfl) (fun _ _ _ h => h) (Or.inl ⟨by kernel_rfl, ?_⟩) hHeld ?_
  · intro w' hSw
    obtain ⟨s0, s1⟩ := hSw
    first | (go_simp; done) | (go_simp; with_reducible rfl)
  simp only [Act.put, List.setIfInBounds_toArray, List.set_cons_zero, List.set_cons_succ]
  refine wpAnyH_take (i := 1) (v := .iface 95 (.agg #[])) rfl (by kernel_rfl) (by kernel_rfl) (by kernel_rfl) (fun _ _ _ h => h) (Or.inl ⟨by kernel_rfl, ?_⟩) hHeld ?_
  · intro w' hSw
    obtain ⟨s0, s1⟩ := hSw
    first | (go_simp; done) | (go_simp; with_reducible rfl)
  simp only [Act.put, List.setIfInBounds_toArray, List.set_cons_zero, List.set_cons_succ]
  refine wpAnyH_take (i := 2) (v := .pointer (some ⟨p, 0, none⟩)) rfl (by kernel_rfl) (by kernel_rfl) (by kernel_rfl) (fun _ _ _ h => h) (Or.inl ⟨by kernel_rfl, ?_⟩) hHeld ?_
  · intro w' hSw
    obtain ⟨s0, s1⟩ := hSw
    first | (go_simp; done) | (go_simp; with_reducible rfl)
  simp only [Act.put, List.setIfInBounds_toArray, List.set_cons_zero, List.set_cons_succ]
  refine wpAnyH_take (i := 3) (v := .pointer (some ⟨w.heap.size, 2, none⟩)) rfl (by kernel_rfl) (by kernel_rfl) (by kernel_rfl) (fun _ _ _ h => h) (Or.inl ⟨by kernel_rfl, ?_⟩) hHeld ?_
  · intro w' hSw
    obtain ⟨s0, s1⟩ := hSw
    first | (go_simp; done) | (go_simp; with_reducible rfl)
  simp only [Act.put, List.setIfInBounds_toArray, List.set_cons_zero, List.set_cons_succ]
  refine wpAnyH_take (i := 4) (v := .slice gt 2 2) rfl (by kernel_rfl) (by kernel_rfl) (by kernel_rfl) (fun _ _ _ h => h) (Or.inl ⟨by kernel_rfl, ?_⟩) hHeld ?_
  · intro w' hSw
    obtain ⟨s0, s1⟩ := hSw
    first | (go_simp; done) | (go_simp; with_reducible rfl)
  simp only [Act.put, List.setIfInBounds_toArray, List.set_cons_zero, List.set_cons_succ]
  refine wpAnyH_take (i := 5) (v := .int .i64 2) rfl (by kernel_rfl) (by kernel_rfl) (by kernel_rfl) (fun _ _ _ h => h) (Or.inl ⟨by kernel_rfl, ?_⟩) hHeld ?_
  · intro w' hSw
    obtain ⟨s0, s1⟩ := hSw
    first | (go_simp; done) | (go_simp; with_reducible rfl)
  simp only [Act.put, List.setIfInBounds_toArray, List.set_cons_zero, List.set_cons_succ]
  refine wpAnyH_take (i := 7) (v := .iface 95 (.agg #[])) rfl (by kernel_rfl) (by kernel_rfl) (by kernel_rfl) (fun _ _ _ h => h) (Or.inl ⟨by kernel_rfl, ?_⟩) hHeld ?_
  · intro w' hSw
    obtain ⟨s0, s1⟩ := hSw
    first | (go_simp; done) | (go_simp; with_reducible rfl)
  simp only [Act.put, List.setIfInBounds_toArray, List.set_cons_zero, List.set_cons_succ]
  refine wpAnyH_take (i := 8) (v := .iface 95 (.agg #[])) rfl (by kernel_rfl) (by kernel_rfl) (by kernel_rfl) (fun _ _ _ h => h) (Or.inl ⟨by kernel_rfl, ?_⟩) hHeld ?_
  · intro w' hSw
    obtain ⟨s0, s1⟩ := hSw
    first | (go_simp; done) | (go_simp; with_reducible rfl)
  simp only [Act.put, List.setIfInBounds_toArray, List.set_cons_zero, List.set_cons_succ]
  refine wpAnyH_ready (rs := [6]) (by kernel_rfl) (by simp) ?_
  refine AllReadyH.cons rfl (fun K hK => ?_) AllReadyH.nil
  go_simp
  go_wp2_with (first | (go_at_call 61; refine (take_any w0 p lo b nw a so ca si ni ci v h F N 2 _ (by omega) ht hh (HD.out.below (by repeat (first | with_reducible exact Below.refl _ _ | with_reducible refine Below.setCell ?_ (by first | omega | (simp; done) | (simp; omega)) _ | with_reducible refine bDrewN ?_ _ | with_reducible refine Below.drew ?_ | with_reducible refine Below.alloc ?_ (by first | omega | (simp; done) | (simp; omega)) _)))).mono ?_; rintro e w3 ⟨g, cc, rfl, zg3, pg, hcg, hbs, v', hma⟩; have HMA : Hid (MaAt w0 p lo b nw a so ca si ni ci w3 v' (h - 2) F N) := hma; clear hma))
  have e0 := hcg 0 (by omega)
  rw [Nat.add_zero] at e0
  have e1 := hcg 1 (by omega)
  obtain ⟨A, hA⟩ : ∃ x, F (h - 2) = x := ⟨_, rfl⟩
  rw [hA] at e0
  have rA := hF (h - 2) (by omega)
  rw [hA] at rA
  have HA : Hid (F (h - 2) = A) := hA
  clear hA
  obtain ⟨B, hB⟩ : ∃ x, F (h - 2 + 1) = x := ⟨_, rfl⟩
  rw [hB] at e1
  have rB := hF (h - 2 + 1) (by omega)
  rw [hB] at rB
  have HB : Hid (F (h - 2 + 1) = B) := hB
  clear hB
  have y2 : w3.cell? ⟨w.heap.size, 2, none⟩ = some (.slice gt 2 2) := (hbs.cell (p := ⟨w.heap.size, 2, none⟩) (by simpa using z4) np).trans (by simpa [go_sem] using q2)
  have y4 : w3.cell? ⟨w.heap.size, 4, none⟩ = some (.iface 95 (.agg #[])) := (hbs.cell (p := ⟨w.heap.size, 4, none⟩) (by simpa using z4) np).trans (by simpa [go_sem] using q4)
  have z43 : w.heap.size < w3.heap.size := Nat.lt_of_lt_of_le (by simpa using z4) hbs.2.2.2.1
  clear hcg hbs
  refine hK.out _ _ ⟨y2, y4⟩ (fun hHeld => ?_)
  clear hK K
  refine wpAnyH_ready (rs := [9]) (by kernel_rfl) (by simp) ?_
  refine AllReadyH.cons rfl (fun K hK => ?_) AllReadyH.nil
  go_simp
  refine upon_go (a := (82, Value.agg #[])) (w' := w3) (by kernel_rfl) ?_
  go_wp2_with (first | (go_at_call 82; refine (work_7 g (h - 2) cc A B 0 _ rA.1 rA.2 rB.1 rB.2 zg3 e0 e1).mono ?_; rintro e w4 ⟨rfl, h4⟩))
  have x2 : w4.cell? ⟨w.heap.size, 2, none⟩ = some (.slice gt 2 2) := (h4.cell (p := ⟨w.heap.size, 2, none⟩) z43).trans y2
  have x4 : w4.cell? ⟨w.heap.size, 4, none⟩ = some (.iface 95 (.agg #[])) := (h4.cell (p := ⟨w.heap.size, 4, none⟩) z43).trans y4
  have HM4 : Hid (MaAt w0 p lo b nw a so ca si ni ci w4 v' (h - 2) F N) := HMA.out.below h4
  clear h4
  refine hK.out _ _ ⟨x2, x4⟩ (fun hHeld => ?_)
  clear hK K
  refine wpAnyH_ready (rs := [10]) (by kernel_rfl) (by simp) ?_
  refine AllReadyH.cons rfl (fun K hK => ?_) AllReadyH.nil
  go_simp
  refine hK.out _ _ ⟨x2, x4⟩ (fun hHeld => ?_)
  clear hK K hHeld
  refine wpAnyH_done (by kernel_rfl) ?_ _
  obtain ⟨G, hG⟩ : ∃ G, gvV 7 A B 0 = G := ⟨_, rfl⟩
  rw [hG]
  have HG : Hid (gvV 7 (F (h - 2)) (F (h - 2 + 1)) (F (h - 2 + 2)) = G) := by show _ = _; rw [HA.out, HB.out]; exact hG
  clear hG x2 x4 y2 y4 q2 q4 e0 e1
  go_wp2_with fail
  refine (bounded_any G (-1000000) 1000000 _).mono ?_
  rintro e w5 ⟨rfl, rfl⟩
  rw [show max (-1000000) (min G 1000000) = clipV G from rfl]
  go_wp2_with fail
  refine (lay_any w0 p lo b nw a so ca si ni ci v' (h - 2) F N (clipV G) _ (by omega) HM4).mono ?_
  rintro e w6 ⟨rfl, v6, hx⟩
  have HX : Hid (MaAt w0 p lo b nw a so ca si ni ci w6 v6 (h - 2 + 1) (puF F (h - 2) (clipV G)) N) := hx
  clear hx
  go_wp2
  go_end0
  exact ⟨rfl, v6, by rw [HG.out]; exact HX.out⟩
end Go.Proofs.Ytdidgbibbkhnhaa
