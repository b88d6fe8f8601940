/-
What is proved: how far a frame lies ahead, and what a link is that took one, as the program tells it.
-/
import Derived.Test.YtkocbklkiehdiaaHe
import Derived.Deep.RegionHeld3
import Derived.Deep.DeepCutAuto
namespace Go.Proofs.Ytkocbklkiehdiaa
set_option maxRecDepth 40000
open Go.RowKit
set_option linter.unusedVariables false
set_option linter.unusedSimpArgs false

theorem keepT {W W' : World} {p r : Nat} {v0 v1 v2 v3 v4 v5 u : Value} (h0 : W.cell? ⟨p, 0, none⟩ = some v0) (h1 : W.cell? ⟨p, 1, none⟩ = some v1) (h2 : W.cell? ⟨p, 2, none⟩ = some v2) (h3 : W.cell? ⟨p, 3, none⟩ = some v3) (h4 : W.cell? ⟨p, 4, none⟩ = some v4) (h5 : W.cell? ⟨p, 5, none⟩ = some v5) (g : W.cell? ⟨r, 1, none⟩ = some u) (zp : p < W.heap.size) (zr : r < W.heap.size) (hb : Below W.heap.size W W') : W'.cell? ⟨p, 0, none⟩ = some v0 ∧ W'.cell? ⟨p, 1, none⟩ = some v1 ∧ W'.cell? ⟨p, 2, none⟩ = some v2 ∧ W'.cell? ⟨p, 3, none⟩ = some v3 ∧ W'.cell? ⟨p, 4, none⟩ = some v4 ∧ W'.cell? ⟨p, 5, none⟩ = some v5 ∧ W'.cell? ⟨r, 1, none⟩ = some u :=
  ⟨(hb.cell (p := ⟨p, 0, none⟩) zp).trans h0, (hb.cell (p := ⟨p, 1, none⟩) zp).trans h1, (hb.cell (p := ⟨p, 2, none⟩) zp).trans h2, (hb.cell (p := ⟨p, 3, none⟩) zp).trans h3, (hb.cell (p := ⟨p, 4, none⟩) zp).trans h4, (hb.cell (p := ⟨p, 5, none⟩) zp).trans h5, (hb.cell (p := ⟨r, 1, none⟩) zr).trans g⟩
set_option maxHeartbeats 1000000 in
theorem stepsTo_any (t : Int) (h : Bool) (q a l : Int) (s : Option Addr) (n c : Nat) (x : Int) (w : World) (q1 : 0 ≤ q) (q2 : q ≤ 65535) (x1 : 0 ≤ x) (x2 : x ≤ 65535) :
    Calls Try.prog 48 #[.agg #[.int .i64 t, .bool h, .int .i64 q, .int .i64 a, .int .i64 l, .slice s n c], .int .i64 x] w fun e w' => e = .returned (.int .i64 (farV x q)) ∧ Below w.heap.size w w' := by
  go_enter Try.func48, Try.ntmps48
  go_wp2
  go_ret
  exact ⟨rfl, (by repeat (first | with_reducible exact Below.refl _ _ | with_reducible refine Below.setCell ?_ (by first | omega | (simp; done) | (simp; omega)) _ | with_reducible refine bDrewN ?_ _ | with_reducible refine Below.drew ?_ | with_reducible refine Below.alloc ?_ (by first | omega | (simp; done) | (simp; omega)) _))⟩
set_option maxHeartbeats 4000000 in
theorem took_any (t : Int) (h : Bool) (q a l : Int) (s : Option Addr) (n c : Nat) (T x : Int) (s2 : Option Addr) (m c2 : Nat) (w : World) (y1 : 0 ≤ q) (y2 : q ≤ 65535) (x1 : 0 ≤ x) (x2 : x ≤ 65535) (l1 : 0 ≤ l) (l2 : l ≤ 1000000000) :
    Calls Try.prog 49 #[.agg #[.int .i64 t, .bool h, .int .i64 q, .int .i64 a, .int .i64 l, .slice s n c], .agg #[.int .i64 T, .int .i64 x, .slice s2 m c2]] w fun e w' => e = .returned (.agg #[.int .i64 t, .bool true, .int .i64 x, .int .i64 0, .int .i64 (lostV h l (farV x q)), .slice s2 m c2]) ∧ Below w.heap.size w w' := by
  have sto := store_sl
  cases h
  · have HL : Hid (lostV false l (farV x q) = 0) := rfl
    go_enter Try.func49, Try.ntmps49
    go_wp2
    exact bodyPost_ret (v := .agg #[.int .i64 t, .bool true, .int .i64 x, .int .i64 0, .int .i64 0, .slice s2 m c2]) (by simp [results, Try.results49, go_sem]) rfl ⟨by rw [HL.out], (by repeat (first | with_reducible exact Below.refl _ _ | with_reducible refine Below.setCell ?_ (by first | omega | (simp; done) | (simp; omega)) _ | with_reducible refine bDrewN ?_ _ | with_reducible refine Below.drew ?_ | with_reducible refine Below.alloc ?_ (by first | omega | (simp; done) | (simp; omega)) _))⟩
  have hl : lostV true l (farV x q) = min (l + farV x q - 1) 1000000000 := rfl
  have f1 : 0 ≤ farV x q := by unfold farV; omega
  have f2 : farV x q < 65536 := by unfold farV; omega
  obtain ⟨F, hF⟩ : ∃ F, F = farV x q := ⟨_, rfl⟩
  have ST : Hid (∀ w' : World, Calls Try.prog 48 #[.agg #[.int .i64 t, .bool true, .int .i64 q, .int .i64 a, .int .i64 l, .slice s n c], .int .i64 x] w' fun e w2 => e = .returned (.int .i64 F) ∧ Below w'.heap.size w' w2) := fun w' => by rw [hF]; exact stepsTo_any t true q a l s n c x w' y1 y2 x1 x2
  rw [← hF] at hl f1 f2
  rw [← hF]
  obtain ⟨G, hG⟩ : ∃ G, G = lostV true l F := ⟨_, rfl⟩
  rw [← hG]
  rw [← hG] at hl
  have HL : Hid (G = min (l + F - 1) 1000000000) := hl
  have hw1 : IntKind.i64.wrap (l + F) = l + F := by rw [IntKind.wrap_i64]; omega
  have hw2 : IntKind.i64.wrap (l + F - 1) = l + F - 1 := by rw [IntKind.wrap_i64]; omega
  clear hF hG hl
  go_enter Try.func49, Try.ntmps49
  go_upto_region 3 with fail
  obtain ⟨wd, hwd⟩ : ∃ wd, wd = ((w.alloc (.cells #[.int .i64 t, .bool true, .int .i64 q, .int .i64 a, .int .i64 l, .slice s n c] 26)).alloc (.cells #[.int .i64 T, .int .i64 x, .slice s2 m c2] 32)).alloc (.cells #[.int .i64 0, .bool false, .int .i64 0, .int .i64 0, .int .i64 0, .slice none 0 0] 26) := ⟨_, rfl⟩
  rw [← hwd]
  have zd : wd.heap.size = w.heap.size + 1 + 1 + 1 := by rw [hwd]; simp
  have q0 : wd.cell? ⟨w.heap.size, 0, none⟩ = some (.int .i64 t) := by rw [hwd]; simp [go_sem]
  have q1 : wd.cell? ⟨w.heap.size, 1, none⟩ = some (.bool true) := by rw [hwd]; simp [go_sem]
  have q2 : wd.cell? ⟨w.heap.size, 2, none⟩ = some (.int .i64 q) := by rw [hwd]; simp [go_sem]
  have q3 : wd.cell? ⟨w.heap.size, 3, none⟩ = some (.int .i64 a) := by rw [hwd]; simp [go_sem]
  have q4 : wd.cell? ⟨w.heap.size, 4, none⟩ = some (.int .i64 l) := by rw [hwd]; simp [go_sem]
  have q5 : wd.cell? ⟨w.heap.size, 5, none⟩ = some (.slice s n c) := by rw [hwd]; simp [go_sem]
  have p0 : wd.cell? ⟨w.heap.size + 1, 0, none⟩ = some (.int .i64 T) := by rw [hwd]; simp [go_sem]
  have p1 : wd.cell? ⟨w.heap.size + 1, 1, none⟩ = some (.int .i64 x) := by rw [hwd]; simp [go_sem]
  have p2 : wd.cell? ⟨w.heap.size + 1, 2, none⟩ = some (.slice s2 m c2) := by rw [hwd]; simp [go_sem]
  have r0 : wd.cell? ⟨w.heap.size + 1 + 1, 0, none⟩ = some (.int .i64 0) := by rw [hwd]; simp [go_sem]
  have r1 : wd.cell? ⟨w.heap.size + 1 + 1, 1, none⟩ = some (.bool false) := by rw [hwd]; simp [go_sem]
  have r2 : wd.cell? ⟨w.heap.size + 1 + 1, 2, none⟩ = some (.int .i64 0) := by rw [hwd]; simp [go_sem]
  have r3 : wd.cell? ⟨w.heap.size + 1 + 1, 3, none⟩ = some (.int .i64 0) := by rw [hwd]; simp [go_sem]
  have r4 : wd.cell? ⟨w.heap.size + 1 + 1, 4, none⟩ = some (.int .i64 0) := by rw [hwd]; simp [go_sem]
  have r5 : wd.cell? ⟨w.heap.size + 1 + 1, 5, none⟩ = some (.slice none 0 0) := by rw [hwd]; simp [go_sem]
  have rf : ∀ o, wd.frozen? ⟨w.heap.size + 1 + 1, o, none⟩ = false := fun o => by rw [hwd]; simp [go_sem]
  have Bd : Below w.heap.size w wd := by rw [hwd]; exact (by repeat (first | with_reducible exact Below.refl _ _ | with_reducible refine Below.setCell ?_ (by first | omega | (simp; done) | (simp; omega)) _ | with_reducible refine bDrewN ?_ _ | with_reducible refine Below.drew ?_ | with_reducible refine Below.alloc ?_ (by first | omega | (simp; done) | (simp; omega)) _))
  clear hwd
  go_cut [5] (fun y wx => y = .int .i64 G ∧ Below wd.heap.size wd wx)
  case first =>
    by_cases hm : l + F - 1 ≤ 1000000000
    · have HG : Hid (G = l + F - 1) := by have := HL.out; show G = _; omega
      have hm2 : ¬ 1000000000 < l + F - 1 := by omega
      go_region_held3 (fun w' => w'.cell? ⟨w.heap.size, 0, none⟩ = some (.int .i64 t) ∧ w'.cell? ⟨w.heap.size, 1, none⟩ = some (.bool true) ∧ w'.cell? ⟨w.heap.size, 2, none⟩ = some (.int .i64 q) ∧ w'.cell? ⟨w.heap.size, 3, none⟩ = some (.int .i64 a) ∧ w'.cell? ⟨w.heap.size, 4, none⟩ = some (.int .i64 l) ∧ w'.cell? ⟨w.heap.size, 5, none⟩ = some (.slice s n c) ∧ w'.cell? ⟨w.heap.size + 1, 1, none⟩ = some (.int .i64 x)) (first | (exact ⟨q0, q1, q2, q3, q4, q5, p1⟩) | (refine keepT q0 q1 q2 q3 q4 q5 p1 (by omega) (by omega) ?_; exact (by repeat (first | with_reducible exact Below.refl _ _ | with_reducible exact B8 | with_reducible refine Below.setCell ?_ (by first | omega | (simp; done) | (simp; omega)) _ | with_reducible refine bDrewN ?_ _ | with_reducible refine Below.drew ?_ | with_reducible refine Below.alloc ?_ (by first | omega | (simp; done) | (simp; omega)) _)))) (first
        | (go_at_call 48; refine (ST.out _).mono ?_; rintro e wz ⟨rfl, h8⟩; have B8 : Below wd.heap.size wd wz := Below.trans (by repeat (first | with_reducible exact Below.refl _ _ | with_reducible refine Below.setCell ?_ (by first | omega | (simp; done) | (simp; omega)) _ | with_reducible refine bDrewN ?_ _ | with_reducible refine Below.drew ?_ | with_reducible refine Below.alloc ?_ (by first | omega | (simp; done) | (simp; omega)) _)) (h8.mono (by first | omega | (simp; done) | (simp; omega))); clear h8))
      all_goals
        go_wp2_with fail
        go_meet
        exact ⟨by rw [HG.out], B8⟩
    · have HG : Hid (G = 1000000000) := by have := HL.out; show G = _; omega
      have hm2 : ¬ l + F - 1 < 1000000000 := by omega
      go_region_held3 (fun w' => w'.cell? ⟨w.heap.size, 0, none⟩ = some (.int .i64 t) ∧ w'.cell? ⟨w.heap.size, 1, none⟩ = some (.bool true) ∧ w'.cell? ⟨w.heap.size, 2, none⟩ = some (.int .i64 q) ∧ w'.cell? ⟨w.heap.size, 3, none⟩ = some (.int .i64 a) ∧ w'.cell? ⟨w.heap.size, 4, none⟩ = some (.int .i64 l) ∧ w'.cell? ⟨w.heap.size, 5, none⟩ = some (.slice s n c) ∧ w'.cell? ⟨w.heap.size + 1, 1, none⟩ = some (.int .i64 x)) (first | (exact ⟨q0, q1, q2, q3, q4, q5, p1⟩) | (refine keepT q0 q1 q2 q3 q4 q5 p1 (by omega) (by omega) ?_; exact (by repeat (first | with_reducible exact Below.refl _ _ | with_reducible exact B8 | with_reducible refine Below.setCell ?_ (by first | omega | (simp; done) | (simp; omega)) _ | with_reducible refine bDrewN ?_ _ | with_reducible refine Below.drew ?_ | with_reducible refine Below.alloc ?_ (by first | omega | (simp; done) | (simp; omega)) _)))) (first
        | (go_at_call 48; refine (ST.out _).mono ?_; rintro e wz ⟨rfl, h8⟩; have B8 : Below wd.heap.size wd wz := Below.trans (by repeat (first | with_reducible exact Below.refl _ _ | with_reducible refine Below.setCell ?_ (by first | omega | (simp; done) | (simp; omega)) _ | with_reducible refine bDrewN ?_ _ | with_reducible refine Below.drew ?_ | with_reducible refine Below.alloc ?_ (by first | omega | (simp; done) | (simp; omega)) _)) (h8.mono (by first | omega | (simp; done) | (simp; omega))); clear h8))
      all_goals
        go_wp2_with fail
        go_meet
        exact ⟨by rw [HG.out], B8⟩
  obtain ⟨rfl, hb⟩ := hcut
  rename World => w3
  replace q0 := (hb.cell (p := ⟨w.heap.size, 0, none⟩) (by show w.heap.size < _; omega)).trans q0
  replace q1 := (hb.cell (p := ⟨w.heap.size, 1, none⟩) (by show w.heap.size < _; omega)).trans q1
  replace q2 := (hb.cell (p := ⟨w.heap.size, 2, none⟩) (by show w.heap.size < _; omega)).trans q2
  replace q3 := (hb.cell (p := ⟨w.heap.size, 3, none⟩) (by show w.heap.size < _; omega)).trans q3
  replace q4 := (hb.cell (p := ⟨w.heap.size, 4, none⟩) (by show w.heap.size < _; omega)).trans q4
  replace q5 := (hb.cell (p := ⟨w.heap.size, 5, none⟩) (by show w.heap.size < _; omega)).trans q5
  replace p0 := (hb.cell (p := ⟨w.heap.size + 1, 0, none⟩) (by show w.heap.size + 1 < _; omega)).trans p0
  replace p1 := (hb.cell (p := ⟨w.heap.size + 1, 1, none⟩) (by show w.heap.size + 1 < _; omega)).trans p1
  replace p2 := (hb.cell (p := ⟨w.heap.size + 1, 2, none⟩) (by show w.heap.size + 1 < _; omega)).trans p2
  replace r0 := (hb.cell (p := ⟨w.heap.size + 1 + 1, 0, none⟩) (by show w.heap.size + 1 + 1 < _; omega)).trans r0
  replace r1 := (hb.cell (p := ⟨w.heap.size + 1 + 1, 1, none⟩) (by show w.heap.size + 1 + 1 < _; omega)).trans r1
  replace r2 := (hb.cell (p := ⟨w.heap.size + 1 + 1, 2, none⟩) (by show w.heap.size + 1 + 1 < _; omega)).trans r2
  replace r3 := (hb.cell (p := ⟨w.heap.size + 1 + 1, 3, none⟩) (by show w.heap.size + 1 + 1 < _; omega)).trans r3
  replace r4 := (hb.cell (p := ⟨w.heap.size + 1 + 1, 4, none⟩) (by show w.heap.size + 1 + 1 < _; omega)).trans r4
  replace r5 := (hb.cell (p := ⟨w.heap.size + 1 + 1, 5, none⟩) (by show w.heap.size + 1 + 1 < _; omega)).trans r5
  have f0' := (hb.frozen (p := ⟨w.heap.size + 1 + 1, 0, none⟩) (by show w.heap.size + 1 + 1 < _; omega)).trans (rf 0)
  have f1' := (hb.frozen (p := ⟨w.heap.size + 1 + 1, 1, none⟩) (by show w.heap.size + 1 + 1 < _; omega)).trans (rf 1)
  have f2' := (hb.frozen (p := ⟨w.heap.size + 1 + 1, 2, none⟩) (by show w.heap.size + 1 + 1 < _; omega)).trans (rf 2)
  have f3' := (hb.frozen (p := ⟨w.heap.size + 1 + 1, 3, none⟩) (by show w.heap.size + 1 + 1 < _; omega)).trans (rf 3)
  have f4' := (hb.frozen (p := ⟨w.heap.size + 1 + 1, 4, none⟩) (by show w.heap.size + 1 + 1 < _; omega)).trans (rf 4)
  have f5' := (hb.frozen (p := ⟨w.heap.size + 1 + 1, 5, none⟩) (by show w.heap.size + 1 + 1 < _; omega)).trans (rf 5)
  have B3 : Below w.heap.size w w3 := Bd.trans (hb.mono Bd.size)
  clear hb rf
  go_wp2
  exact bodyPost_ret (v := .agg #[.int .i64 t, .bool true, .int .i64 x, .int .i64 0, .int .i64 G, .slice s2 m c2]) (by simp [results, Try.results49, go_sem, r0, r1, r2, r3, r4, r5]) rfl ⟨rfl, (by repeat (first | with_reducible exact Below.refl _ _ | with_reducible exact B3 | with_reducible refine Below.setCell ?_ (by first | omega | (simp; done) | (simp; omega)) _ | with_reducible refine bDrewN ?_ _ | with_reducible refine Below.drew ?_ | with_reducible refine Below.alloc ?_ (by first | omega | (simp; done) | (simp; omega)) _))⟩
end Go.Proofs.Ytkocbklkiehdiaa
