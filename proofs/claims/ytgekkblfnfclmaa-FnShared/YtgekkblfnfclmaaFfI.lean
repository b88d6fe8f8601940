/-
What is proved: the least fall, as the program finds it: by halving, the question being a closure.
-/
import Derived.Test.YtgekkblfnfclmaaUnI
import Derived.Deep.RegionHeld3
import Derived.Deep.DeepCutAuto
namespace Go.Proofs.Ytgekkblfnfclmaa
set_option maxRecDepth 40000
open Go.RowKit
set_option linter.unusedVariables false
set_option linter.unusedSimpArgs false

theorem keep2 {W W' : World} {p q : Nat} {a b : Value} (h0 : W.cell? ⟨p, 0, none⟩ = some a) (h1 : W.cell? ⟨q, 0, none⟩ = some b) (hp : p < W.heap.size) (hq : q < W.heap.size) (hb : Below W.heap.size W W') : W'.cell? ⟨p, 0, none⟩ = some a ∧ W'.cell? ⟨q, 0, none⟩ = some b :=
  ⟨(hb.cell (p := ⟨p, 0, none⟩) hp).trans h0, (hb.cell (p := ⟨q, 0, none⟩) hq).trans h1⟩
set_option maxHeartbeats 1000000 in
theorem met_any (s : Option Addr) (n c p q : Nat) (x y v : Int) (w : World) (hp : p < w.heap.size) (hq : q < w.heap.size) (cp : w.cell? ⟨p, 0, none⟩ = some (.slice s n c)) (cq : w.cell? ⟨q, 0, none⟩ = some (.int .i64 y))
    (H : Hid (∀ w', Below w.heap.size w w' → Calls Try.prog 25 #[.slice s n c, .int .i64 x] w' fun e w'' => e = .returned (.int .i64 v) ∧ Below w'.heap.size w' w'')) :
    Calls Try.prog 27 #[.int .i64 x, .pointer (some ⟨p, 0, none⟩), .pointer (some ⟨q, 0, none⟩)] w fun e w' => e = .returned (.bool (decide (y ≤ v))) ∧ Below w.heap.size w w' := by
  go_enter Try.func27, Try.ntmps27
  go_wp2_with fail
  go_region_held3 (fun w' => w'.cell? ⟨p, 0, none⟩ = some (.slice s n c) ∧ w'.cell? ⟨q, 0, none⟩ = some (.int .i64 y)) (first | (refine keep2 cp cq hp hq ?_; exact (by repeat (first | with_reducible exact Below.refl _ _ | with_reducible exact B3 | with_reducible refine Below.setCell ?_ (by first | omega | (simp; done) | (simp; omega)) _ | with_reducible refine bDrewN ?_ _ | with_reducible refine Below.drew ?_ | with_reducible refine Below.alloc ?_ (by first | omega | (simp; done) | (simp; omega)) _)))) (first
    | (go_at_call 25; refine (H.out _ (by repeat (first | with_reducible exact Below.refl _ _ | with_reducible refine Below.setCell ?_ (by first | omega | (simp; done) | (simp; omega)) _ | with_reducible refine bDrewN ?_ _ | with_reducible refine Below.drew ?_ | with_reducible refine Below.alloc ?_ (by first | omega | (simp; done) | (simp; omega)) _))).mono ?_; rintro r w3 ⟨rfl, h3⟩; have B3 : Below w.heap.size w w3 := Below.trans (by repeat (first | with_reducible exact Below.refl _ _ | with_reducible refine Below.setCell ?_ (by first | omega | (simp; done) | (simp; omega)) _ | with_reducible refine bDrewN ?_ _ | with_reducible refine Below.drew ?_ | with_reducible refine Below.alloc ?_ (by first | omega | (simp; done) | (simp; omega)) _)) (h3.mono (by first | omega | (simp; done) | (simp; omega)))))
  all_goals
    go_wp2
    go_ret
    exact ⟨rfl, (by repeat (first | with_reducible exact Below.refl _ _ | with_reducible exact B3 | with_reducible refine Below.setCell ?_ (by first | omega | (simp; done) | (simp; omega)) _ | with_reducible refine bDrewN ?_ _ | with_reducible refine Below.drew ?_ | with_reducible refine Below.alloc ?_ (by first | omega | (simp; done) | (simp; omega)) _))⟩
set_option maxHeartbeats 1000000 in
theorem leastWhere_any (lo hi L : Int) (p q : Nat) (w : World) (h1 : lo ≤ L) (h2 : L ≤ hi) (h3 : -1000000 ≤ lo) (h4 : hi ≤ 1000000)
    (M : Hid (∀ x w', Below w.heap.size w w' → lo ≤ x → x ≤ hi → Calls Try.prog 27 #[.int .i64 x, .pointer (some ⟨p, 0, none⟩), .pointer (some ⟨q, 0, none⟩)] w' fun e w'' => e = .returned (.bool (decide (L ≤ x))) ∧ Below w'.heap.size w' w'')) :
    Calls Try.prog 26 #[.int .i64 lo, .int .i64 hi, .func (.func 27) #[] #[.pointer (some ⟨p, 0, none⟩), .pointer (some ⟨q, 0, none⟩)]] w fun e w' => e = .returned (.int .i64 L) ∧ Below w.heap.size w w' := by
  go_enter Try.func26, Try.ntmps26
  go_wp2_with fail
  go_loopw [0, 1] (fun i j wr => ∃ l h, i = .int .i64 l ∧ j = .int .i64 h ∧ lo ≤ l ∧ l ≤ L ∧ L ≤ h ∧ h ≤ hi ∧ Below w.heap.size w wr) (fun i j _ => (intOf j - intOf i).toNat)
  case atStart => exact ⟨lo, hi, rfl, rfl, Int.le_refl _, h1, h2, Int.le_refl _, (by repeat (first | with_reducible exact Below.refl _ _ | with_reducible refine Below.setCell ?_ (by first | omega | (simp; done) | (simp; omega)) _ | with_reducible refine bDrewN ?_ _ | with_reducible refine Below.drew ?_ | with_reducible refine Below.alloc ?_ (by first | omega | (simp; done) | (simp; omega)) _))⟩
  case round =>
    obtain ⟨l, h, rfl, rfl, r1, r2, r3, r4, hB⟩ := hrel
    by_cases t : l < h
    · obtain ⟨z, hz⟩ : ∃ z, l + (h - l) / 2 = z := ⟨_, rfl⟩
      have z1 : l ≤ z := by omega
      have z2 : z < h := by omega
      have HB : Hid (Below w.heap.size w wr) := hB
      clear hB
      by_cases u : L ≤ z
      · go_wp2_with fail
        refine (M.out z _ HB.out (by omega) (by omega)).mono ?_
        rintro r w3 ⟨rfl, k3⟩
        have B3 : Below w.heap.size w w3 := HB.out.trans (k3.mono HB.out.size)
        go_wp2
        go_round
        case rel => exact ⟨l, z, rfl, rfl, r1, r2, u, by omega, B3⟩
        case measure => simp [intOf]; omega
      · go_wp2_with fail
        refine (M.out z _ HB.out (by omega) (by omega)).mono ?_
        rintro r w3 ⟨rfl, k3⟩
        have B3 : Below w.heap.size w w3 := HB.out.trans (k3.mono HB.out.size)
        go_wp2
        go_round
        case rel => exact ⟨z + 1, h, by go_num, rfl, by omega, by omega, r3, r4, B3⟩
        case measure => simp [intOf]; omega
    · obtain rfl : l = L := by omega
      go_wp2
      go_ret
      exact ⟨rfl, (by repeat (first | with_reducible exact Below.refl _ _ | with_reducible exact hB | with_reducible refine Below.setCell ?_ (by first | omega | (simp; done) | (simp; omega)) _ | with_reducible refine bDrewN ?_ _ | with_reducible refine Below.drew ?_ | with_reducible refine Below.alloc ?_ (by first | omega | (simp; done) | (simp; omega)) _))⟩
set_option maxRecDepth 20000 in
set_option maxHeartbeats 4000000 in
theorem implFall_no1 (s : Option Addr) (n c : Nat) (V : Nat → Int) (load : Int) (w : World) (NG : Hid (¬ goF n V load)) (K : Hid (∀ w', Below w.heap.size w w' → Calls Try.prog 23 #[.slice s n c] w' fun e w'' => e = .returned (.bool false) ∧ Below w'.heap.size w' w'')) :
    Calls Try.prog 9 #[.slice s n c, .int .i64 load] w fun e w' => ∃ x, FV n V load x ∧ e = .returned (.int .i64 x) ∧ Below w.heap.size w w' := by
  have hst : ∀ (w : World) (a : Addr) (s : Option Addr) (n c : Nat), (store a (.slice s n c)).run Try.prog w = stored Try.prog w a (.slice s n c) .plain := fun w a s n c => run_store _ _ _ _ _ rfl
  go_enter Try.func9, Try.ntmps9
  go_upto_region 1 with fail
  obtain ⟨wd, hwd⟩ : ∃ wd, wd = (w.alloc (.cells #[.slice s n c] 25)).alloc (.cells #[.int .i64 load] 2) := ⟨_, rfl⟩
  rw [← hwd]
  have d0 : wd.cell? ⟨w.heap.size, 0, none⟩ = some (.slice s n c) := by rw [hwd]; simp [go_sem]
  have d1 : wd.cell? ⟨w.heap.size + 1, 0, none⟩ = some (.int .i64 load) := by rw [hwd]; simp [go_sem]
  have z0 : w.heap.size < wd.heap.size := by rw [hwd]; simp; omega
  have z1 : w.heap.size + 1 < wd.heap.size := by rw [hwd]; simp
  have B0 : Below w.heap.size w wd := by rw [hwd]; exact (by repeat (first | with_reducible exact Below.refl _ _ | with_reducible refine Below.setCell ?_ (by first | omega | (simp; done) | (simp; omega)) _ | with_reducible refine bDrewN ?_ _ | with_reducible refine Below.drew ?_ | with_reducible refine Below.alloc ?_ (by first | omega | (simp; done) | (simp; omega)) _))
  clear hwd
  go_cut [18] (fun q wx => q = .bool true ∧ Below wd.heap.size wd wx)
  case first =>
    go_region_with (first
      | (refine Eq.mpr (if_neg ?_) ?_; exact (show ¬ ((none : Option Bool) = some false) from (by decide)))
      | (refine Eq.mpr (if_neg ?_) ?_; exact (show ¬ ((some true : Option Bool) = some false) from (by decide)))
      | (go_at_call 23; refine (K.out _ (Below.trans B0 (Below.mono (by repeat (first | with_reducible exact Below.refl _ _ | with_reducible refine Below.setCell ?_ (by first | omega | (simp; done) | (simp; omega)) _ | with_reducible refine bDrewN ?_ _ | with_reducible refine Below.drew ?_ | with_reducible refine Below.alloc ?_ (by first | omega | (simp; done) | (simp; omega)) _)) B0.size))).mono ?_; rintro r w1 ⟨rfl, h1⟩; have B1 : Below wd.heap.size wd w1 := Below.trans (by repeat (first | with_reducible exact Below.refl _ _ | with_reducible refine Below.setCell ?_ (by first | omega | (simp; done) | (simp; omega)) _ | with_reducible refine bDrewN ?_ _ | with_reducible refine Below.drew ?_ | with_reducible refine Below.alloc ?_ (by first | omega | (simp; done) | (simp; omega)) _)) (h1.mono (by first | omega | (simp; done) | (simp; omega))); have s1 := B1.size))
    all_goals
      go_wp2_with fail
      go_meet
      case rel => exact ⟨rfl, (by repeat (first | with_reducible exact Below.refl _ _ | with_reducible exact B1 | with_reducible refine Below.setCell ?_ (by first | omega | (simp; done) | (simp; omega)) _ | with_reducible refine bDrewN ?_ _ | with_reducible refine Below.drew ?_ | with_reducible refine Below.alloc ?_ (by first | omega | (simp; done) | (simp; omega)) _))⟩
  case rest =>
    obtain ⟨rfl, hB⟩ := hcut
    have BC : Below w.heap.size w wc := B0.trans (hB.mono B0.size)
    go_wp2
    go_ret
    exact ⟨-1, .inl ⟨NG.out, rfl⟩, rfl, (by repeat (first | with_reducible exact Below.refl _ _ | with_reducible exact BC | with_reducible refine Below.setCell ?_ (by first | omega | (simp; done) | (simp; omega)) _ | with_reducible refine bDrewN ?_ _ | with_reducible refine Below.drew ?_ | with_reducible refine Below.alloc ?_ (by first | omega | (simp; done) | (simp; omega)) _))⟩
set_option maxRecDepth 20000 in
set_option maxHeartbeats 4000000 in
theorem implFall_no2 (s : Option Addr) (n c : Nat) (V : Nat → Int) (load : Int) (w : World) (NG : Hid (¬ goF n V load)) (hl : inB 0 50000000 load = false) (K : Hid (∀ w', Below w.heap.size w w' → Calls Try.prog 23 #[.slice s n c] w' fun e w'' => e = .returned (.bool true) ∧ Below w'.heap.size w' w'')) :
    Calls Try.prog 9 #[.slice s n c, .int .i64 load] w fun e w' => ∃ x, FV n V load x ∧ e = .returned (.int .i64 x) ∧ Below w.heap.size w w' := by
  have hst : ∀ (w : World) (a : Addr) (s : Option Addr) (n c : Nat), (store a (.slice s n c)).run Try.prog w = stored Try.prog w a (.slice s n c) .plain := fun w a s n c => run_store _ _ _ _ _ rfl
  go_enter Try.func9, Try.ntmps9
  go_upto_region 1 with fail
  obtain ⟨wd, hwd⟩ : ∃ wd, wd = (w.alloc (.cells #[.slice s n c] 25)).alloc (.cells #[.int .i64 load] 2) := ⟨_, rfl⟩
  rw [← hwd]
  have d0 : wd.cell? ⟨w.heap.size, 0, none⟩ = some (.slice s n c) := by rw [hwd]; simp [go_sem]
  have d1 : wd.cell? ⟨w.heap.size + 1, 0, none⟩ = some (.int .i64 load) := by rw [hwd]; simp [go_sem]
  have z0 : w.heap.size < wd.heap.size := by rw [hwd]; simp; omega
  have z1 : w.heap.size + 1 < wd.heap.size := by rw [hwd]; simp
  have B0 : Below w.heap.size w wd := by rw [hwd]; exact (by repeat (first | with_reducible exact Below.refl _ _ | with_reducible refine Below.setCell ?_ (by first | omega | (simp; done) | (simp; omega)) _ | with_reducible refine bDrewN ?_ _ | with_reducible refine Below.drew ?_ | with_reducible refine Below.alloc ?_ (by first | omega | (simp; done) | (simp; omega)) _))
  clear hwd
  go_cut [18] (fun q wx => q = .bool true ∧ Below wd.heap.size wd wx)
  case first =>
    go_region_with (first
      | (refine Eq.mpr (if_neg ?_) ?_; exact (show ¬ ((none : Option Bool) = some false) from (by decide)))
      | (refine Eq.mpr (if_neg ?_) ?_; exact (show ¬ ((some true : Option Bool) = some false) from (by decide)))
      | (go_at_call 23; refine (K.out _ (Below.trans B0 (Below.mono (by repeat (first | with_reducible exact Below.refl _ _ | with_reducible refine Below.setCell ?_ (by first | omega | (simp; done) | (simp; omega)) _ | with_reducible refine bDrewN ?_ _ | with_reducible refine Below.drew ?_ | with_reducible refine Below.alloc ?_ (by first | omega | (simp; done) | (simp; omega)) _)) B0.size))).mono ?_; rintro r w1 ⟨rfl, h1⟩; have B1 : Below wd.heap.size wd w1 := Below.trans (by repeat (first | with_reducible exact Below.refl _ _ | with_reducible refine Below.setCell ?_ (by first | omega | (simp; done) | (simp; omega)) _ | with_reducible refine bDrewN ?_ _ | with_reducible refine Below.drew ?_ | with_reducible refine Below.alloc ?_ (by first | omega | (simp; done) | (simp; omega)) _)) (h1.mono (by first | omega | (simp; done) | (simp; omega))); have s1 := B1.size; have q1 := (B1.cell (p := ⟨w.heap.size + 1, 0, none⟩) z1).trans d1; have q0 := (B1.cell (p := ⟨w.heap.size, 0, none⟩) z0).trans d0; have y0 := Nat.lt_of_lt_of_le z0 s1; have y1 := Nat.lt_of_lt_of_le z1 s1)
      | (go_at_call 24; refine (within_is _ _ _ _).mono ?_; rintro r w2 ⟨rfl, rfl⟩; rw [hl]))
    all_goals
      go_wp2_with fail
      go_meet
      case rel => exact ⟨rfl, (by repeat (first | with_reducible exact Below.refl _ _ | with_reducible exact B1 | with_reducible refine Below.setCell ?_ (by first | omega | (simp; done) | (simp; omega)) _ | with_reducible refine bDrewN ?_ _ | with_reducible refine Below.drew ?_ | with_reducible refine Below.alloc ?_ (by first | omega | (simp; done) | (simp; omega)) _))⟩
  case rest =>
    obtain ⟨rfl, hB⟩ := hcut
    have BC : Below w.heap.size w wc := B0.trans (hB.mono B0.size)
    go_wp2
    go_ret
    exact ⟨-1, .inl ⟨NG.out, rfl⟩, rfl, (by repeat (first | with_reducible exact Below.refl _ _ | with_reducible exact BC | with_reducible refine Below.setCell ?_ (by first | omega | (simp; done) | (simp; omega)) _ | with_reducible refine bDrewN ?_ _ | with_reducible refine Below.drew ?_ | with_reducible refine Below.alloc ?_ (by first | omega | (simp; done) | (simp; omega)) _))⟩
set_option maxRecDepth 20000 in
set_option maxHeartbeats 4000000 in
theorem implFall_no3 (s : Option Addr) (n c : Nat) (V : Nat → Int) (load : Int) (w : World) (NG : Hid (¬ goF n V load)) (hl : inB 0 50000000 load = true) (a : Int) (ha : a < load) (K : Hid (∀ w', Below w.heap.size w w' → Calls Try.prog 23 #[.slice s n c] w' fun e w'' => e = .returned (.bool true) ∧ Below w'.heap.size w' w'')) (G : Hid (∀ w', Below w.heap.size w w' → Calls Try.prog 25 #[.slice s n c, .int .i64 1000000] w' fun e w'' => e = .returned (.int .i64 a) ∧ Below w'.heap.size w' w'')) :
    Calls Try.prog 9 #[.slice s n c, .int .i64 load] w fun e w' => ∃ x, FV n V load x ∧ e = .returned (.int .i64 x) ∧ Below w.heap.size w w' := by
  have hst : ∀ (w : World) (a : Addr) (s : Option Addr) (n c : Nat), (store a (.slice s n c)).run Try.prog w = stored Try.prog w a (.slice s n c) .plain := fun w a s n c => run_store _ _ _ _ _ rfl
  go_enter Try.func9, Try.ntmps9
  go_upto_region 1 with fail
  obtain ⟨wd, hwd⟩ : ∃ wd, wd = (w.alloc (.cells #[.slice s n c] 25)).alloc (.cells #[.int .i64 load] 2) := ⟨_, rfl⟩
  rw [← hwd]
  have d0 : wd.cell? ⟨w.heap.size, 0, none⟩ = some (.slice s n c) := by rw [hwd]; simp [go_sem]
  have d1 : wd.cell? ⟨w.heap.size + 1, 0, none⟩ = some (.int .i64 load) := by rw [hwd]; simp [go_sem]
  have z0 : w.heap.size < wd.heap.size := by rw [hwd]; simp; omega
  have z1 : w.heap.size + 1 < wd.heap.size := by rw [hwd]; simp
  have B0 : Below w.heap.size w wd := by rw [hwd]; exact (by repeat (first | with_reducible exact Below.refl _ _ | with_reducible refine Below.setCell ?_ (by first | omega | (simp; done) | (simp; omega)) _ | with_reducible refine bDrewN ?_ _ | with_reducible refine Below.drew ?_ | with_reducible refine Below.alloc ?_ (by first | omega | (simp; done) | (simp; omega)) _))
  clear hwd
  go_cut [18] (fun q wx => q = .bool true ∧ Below wd.heap.size wd wx)
  case first =>
    go_region_held3 (fun w' => w'.cell? ⟨w.heap.size, 0, none⟩ = some (.slice s n c) ∧ w'.cell? ⟨w.heap.size + 1, 0, none⟩ = some (.int .i64 load)) (first | (refine keep2 d0 d1 z0 z1 ?_; exact (by repeat (first | with_reducible exact Below.refl _ _ | with_reducible exact B3 | with_reducible exact B1 | with_reducible refine Below.setCell ?_ (by first | omega | (simp; done) | (simp; omega)) _ | with_reducible refine bDrewN ?_ _ | with_reducible refine Below.drew ?_ | with_reducible refine Below.alloc ?_ (by first | omega | (simp; done) | (simp; omega)) _)))) (first
      | (go_at_call 23; refine (K.out _ (Below.trans B0 (Below.mono (by repeat (first | with_reducible exact Below.refl _ _ | with_reducible refine Below.setCell ?_ (by first | omega | (simp; done) | (simp; omega)) _ | with_reducible refine bDrewN ?_ _ | with_reducible refine Below.drew ?_ | with_reducible refine Below.alloc ?_ (by first | omega | (simp; done) | (simp; omega)) _)) B0.size))).mono ?_; rintro r w1 ⟨rfl, h1⟩; have B1 : Below wd.heap.size wd w1 := Below.trans (by repeat (first | with_reducible exact Below.refl _ _ | with_reducible refine Below.setCell ?_ (by first | omega | (simp; done) | (simp; omega)) _ | with_reducible refine bDrewN ?_ _ | with_reducible refine Below.drew ?_ | with_reducible refine Below.alloc ?_ (by first | omega | (simp; done) | (simp; omega)) _)) (h1.mono (by first | omega | (simp; done) | (simp; omega))); have s1 := B1.size)
      | (go_at_call 24; refine (within_is _ _ _ _).mono ?_; rintro r w2 ⟨rfl, rfl⟩; rw [hl])
      | (go_at_call 25; refine (G.out _ (Below.trans B0 (Below.mono (by repeat (first | with_reducible exact Below.refl _ _ | with_reducible exact B1 | with_reducible refine Below.setCell ?_ (by first | omega | (simp; done) | (simp; omega)) _ | with_reducible refine bDrewN ?_ _ | with_reducible refine Below.drew ?_ | with_reducible refine Below.alloc ?_ (by first | omega | (simp; done) | (simp; omega)) _)) B0.size))).mono ?_; rintro r w3 ⟨rfl, h3⟩; have B3 : Below wd.heap.size wd w3 := Below.trans (by repeat (first | with_reducible exact Below.refl _ _ | with_reducible exact B1 | with_reducible refine Below.setCell ?_ (by first | omega | (simp; done) | (simp; omega)) _ | with_reducible refine bDrewN ?_ _ | with_reducible refine Below.drew ?_ | with_reducible refine Below.alloc ?_ (by first | omega | (simp; done) | (simp; omega)) _)) (h3.mono (by first | omega | (simp; done) | (simp; omega))); have s3 := B3.size))
    all_goals
      go_wp2_with fail
      go_meet
      case rel => exact ⟨rfl, (by repeat (first | with_reducible exact Below.refl _ _ | with_reducible exact B3 | with_reducible refine Below.setCell ?_ (by first | omega | (simp; done) | (simp; omega)) _ | with_reducible refine bDrewN ?_ _ | with_reducible refine Below.drew ?_ | with_reducible refine Below.alloc ?_ (by first | omega | (simp; done) | (simp; omega)) _))⟩
  case rest =>
    obtain ⟨rfl, hB⟩ := hcut
    have BC : Below w.heap.size w wc := B0.trans (hB.mono B0.size)
    go_wp2
    go_ret
    exact ⟨-1, .inl ⟨NG.out, rfl⟩, rfl, (by repeat (first | with_reducible exact Below.refl _ _ | with_reducible exact BC | with_reducible refine Below.setCell ?_ (by first | omega | (simp; done) | (simp; omega)) _ | with_reducible refine bDrewN ?_ _ | with_reducible refine Below.drew ?_ | with_reducible refine Below.alloc ?_ (by first | omega | (simp; done) | (simp; omega)) _))⟩
set_option maxRecDepth 20000 in
set_option maxHeartbeats 4000000 in
theorem implFall_on (s : Option Addr) (n c : Nat) (V : Nat → Int) (load : Int) (w : World) (hl : inB 0 50000000 load = true) (a L : Int) (ha : load ≤ a) (L0 : 0 ≤ L) (L1 : L ≤ 1000000) (HL : Hid (FV n V load L)) (HI : Hid (∀ z, 0 ≤ z → z ≤ 1000000 → (load ≤ allV V z n ↔ L ≤ z))) (AL : Hid (∀ f w', Below w.heap.size w w' → 0 ≤ f → f ≤ 1000000 → Calls Try.prog 25 #[.slice s n c, .int .i64 f] w' fun e w'' => e = .returned (.int .i64 (allV V f n)) ∧ Below w'.heap.size w' w'')) (K : Hid (∀ w', Below w.heap.size w w' → Calls Try.prog 23 #[.slice s n c] w' fun e w'' => e = .returned (.bool true) ∧ Below w'.heap.size w' w'')) (G : Hid (∀ w', Below w.heap.size w w' → Calls Try.prog 25 #[.slice s n c, .int .i64 1000000] w' fun e w'' => e = .returned (.int .i64 a) ∧ Below w'.heap.size w' w'')) :
    Calls Try.prog 9 #[.slice s n c, .int .i64 load] w fun e w' => ∃ x, FV n V load x ∧ e = .returned (.int .i64 x) ∧ Below w.heap.size w w' := by
  have hst : ∀ (w : World) (a : Addr) (s : Option Addr) (n c : Nat), (store a (.slice s n c)).run Try.prog w = stored Try.prog w a (.slice s n c) .plain := fun w a s n c => run_store _ _ _ _ _ rfl
  go_enter Try.func9, Try.ntmps9
  go_upto_region 1 with fail
  obtain ⟨wd, hwd⟩ : ∃ wd, wd = (w.alloc (.cells #[.slice s n c] 25)).alloc (.cells #[.int .i64 load] 2) := ⟨_, rfl⟩
  rw [← hwd]
  have d0 : wd.cell? ⟨w.heap.size, 0, none⟩ = some (.slice s n c) := by rw [hwd]; simp [go_sem]
  have d1 : wd.cell? ⟨w.heap.size + 1, 0, none⟩ = some (.int .i64 load) := by rw [hwd]; simp [go_sem]
  have z0 : w.heap.size < wd.heap.size := by rw [hwd]; simp; omega
  have z1 : w.heap.size + 1 < wd.heap.size := by rw [hwd]; simp
  have B0 : Below w.heap.size w wd := by rw [hwd]; exact (by repeat (first | with_reducible exact Below.refl _ _ | with_reducible refine Below.setCell ?_ (by first | omega | (simp; done) | (simp; omega)) _ | with_reducible refine bDrewN ?_ _ | with_reducible refine Below.drew ?_ | with_reducible refine Below.alloc ?_ (by first | omega | (simp; done) | (simp; omega)) _))
  clear hwd
  have hd : decide (a < load) = false := by simp; omega
  go_cut [18] (fun q wx => q = .bool false ∧ Below wd.heap.size wd wx)
  case first =>
    go_region_held3 (fun w' => w'.cell? ⟨w.heap.size, 0, none⟩ = some (.slice s n c) ∧ w'.cell? ⟨w.heap.size + 1, 0, none⟩ = some (.int .i64 load)) (first | (refine keep2 d0 d1 z0 z1 ?_; exact (by repeat (first | with_reducible exact Below.refl _ _ | with_reducible exact B3 | with_reducible exact B1 | with_reducible refine Below.setCell ?_ (by first | omega | (simp; done) | (simp; omega)) _ | with_reducible refine bDrewN ?_ _ | with_reducible refine Below.drew ?_ | with_reducible refine Below.alloc ?_ (by first | omega | (simp; done) | (simp; omega)) _)))) (first
      | (go_at_call 23; refine (K.out _ (Below.trans B0 (Below.mono (by repeat (first | with_reducible exact Below.refl _ _ | with_reducible refine Below.setCell ?_ (by first | omega | (simp; done) | (simp; omega)) _ | with_reducible refine bDrewN ?_ _ | with_reducible refine Below.drew ?_ | with_reducible refine Below.alloc ?_ (by first | omega | (simp; done) | (simp; omega)) _)) B0.size))).mono ?_; rintro r w1 ⟨rfl, h1⟩; have B1 : Below wd.heap.size wd w1 := Below.trans (by repeat (first | with_reducible exact Below.refl _ _ | with_reducible refine Below.setCell ?_ (by first | omega | (simp; done) | (simp; omega)) _ | with_reducible refine bDrewN ?_ _ | with_reducible refine Below.drew ?_ | with_reducible refine Below.alloc ?_ (by first | omega | (simp; done) | (simp; omega)) _)) (h1.mono (by first | omega | (simp; done) | (simp; omega))); have s1 := B1.size)
      | (go_at_call 24; refine (within_is _ _ _ _).mono ?_; rintro r w2 ⟨rfl, rfl⟩; rw [hl])
      | (go_at_call 25; refine (G.out _ (Below.trans B0 (Below.mono (by repeat (first | with_reducible exact Below.refl _ _ | with_reducible exact B1 | with_reducible refine Below.setCell ?_ (by first | omega | (simp; done) | (simp; omega)) _ | with_reducible refine bDrewN ?_ _ | with_reducible refine Below.drew ?_ | with_reducible refine Below.alloc ?_ (by first | omega | (simp; done) | (simp; omega)) _)) B0.size))).mono ?_; rintro r w3 ⟨rfl, h3⟩; have B3 : Below wd.heap.size wd w3 := Below.trans (by repeat (first | with_reducible exact Below.refl _ _ | with_reducible exact B1 | with_reducible refine Below.setCell ?_ (by first | omega | (simp; done) | (simp; omega)) _ | with_reducible refine bDrewN ?_ _ | with_reducible refine Below.drew ?_ | with_reducible refine Below.alloc ?_ (by first | omega | (simp; done) | (simp; omega)) _)) (h3.mono (by first | omega | (simp; done) | (simp; omega))); have s3 := B3.size))
    all_goals
      go_wp2_with fail
      go_meet
      case rel => exact ⟨rfl, (by repeat (first | with_reducible exact Below.refl _ _ | with_reducible exact B3 | with_reducible refine Below.setCell ?_ (by first | omega | (simp; done) | (simp; omega)) _ | with_reducible refine bDrewN ?_ _ | with_reducible refine Below.drew ?_ | with_reducible refine Below.alloc ?_ (by first | omega | (simp; done) | (simp; omega)) _))⟩
  case rest =>
    obtain ⟨rfl, hB⟩ := hcut
    have BC : Below w.heap.size w wc := B0.trans (hB.mono B0.size)
    have e0 := (hB.cell (p := ⟨w.heap.size, 0, none⟩) z0).trans d0
    have e1 := (hB.cell (p := ⟨w.heap.size + 1, 0, none⟩) z1).trans d1
    have y0 := Nat.lt_of_lt_of_le z0 hB.size
    have y1 := Nat.lt_of_lt_of_le z1 hB.size
    have MM : Hid (∀ x w', Below wc.heap.size wc w' → 0 ≤ x → x ≤ 1000000 → Calls Try.prog 27 #[.int .i64 x, .pointer (some ⟨w.heap.size, 0, none⟩), .pointer (some ⟨w.heap.size + 1, 0, none⟩)] w' fun e w'' => e = .returned (.bool (decide (L ≤ x))) ∧ Below w'.heap.size w' w'') := fun x w' hb x0 x1 => by
      have BW : Below w.heap.size w w' := BC.trans (hb.mono BC.size)
      have e : decide (L ≤ x) = decide (load ≤ allV V x n) := by rw [decide_eq_decide]; exact (HI.out x x0 x1).symm
      rw [e]
      exact met_any s n c w.heap.size (w.heap.size + 1) x load _ w' (Nat.lt_of_lt_of_le y0 hb.size) (Nat.lt_of_lt_of_le y1 hb.size) ((hb.cell (p := ⟨w.heap.size, 0, none⟩) y0).trans e0) ((hb.cell (p := ⟨w.heap.size + 1, 0, none⟩) y1).trans e1) fun w'' hb'' => AL.out x w'' (BW.trans (hb''.mono BW.size)) x0 x1
    have LW : Hid (Calls Try.prog 26 #[.int .i64 0, .int .i64 1000000, .func (.func 27) #[] #[.pointer (some ⟨w.heap.size, 0, none⟩), .pointer (some ⟨w.heap.size + 1, 0, none⟩)]] wc fun e w' => e = .returned (.int .i64 L) ∧ Below wc.heap.size wc w') := leastWhere_any 0 1000000 L w.heap.size (w.heap.size + 1) wc L0 L1 (by omega) (by omega) MM
    clear MM
    go_wp2_with fail
    refine LW.out.mono ?_
    rintro r w5 ⟨rfl, h5⟩
    have B5 : Below w.heap.size w w5 := BC.trans (h5.mono BC.size)
    go_wp2
    go_ret
    exact ⟨L, HL.out, rfl, B5⟩
theorem implFall_any (s : Option Addr) (n c : Nat) (V : Nat → Int) (load : Int) (w : World) (hn : (n : Int) ≤ 1048576) (HR : RowI w s (n * 2) V) :
    Calls Try.prog 9 #[.slice s n c, .int .i64 load] w fun e w' => ∃ x, FV n V load x ∧ e = .returned (.int .i64 x) ∧ Below w.heap.size w w' := by
  have K : ∀ w', Below w.heap.size w w' → Calls Try.prog 23 #[.slice s n c] w' fun e w'' => e = .returned (.bool (decide (n ≤ 50) && unitsTo V n)) ∧ Below w'.heap.size w' w'' := fun w' hb => unitsOk_any s n c V w' hn (HR.below hb)
  cases hu : (decide (n ≤ 50) && unitsTo V n)
  · rw [hu] at K
    exact implFall_no1 s n c V load w (fun q => by rw [decide_eq_true q.1, q.2.1] at hu; cases hu) K
  · rw [hu] at K
    rw [Bool.and_eq_true, decide_eq_true_iff] at hu
    have UA := units_at hu.2
    have AL : ∀ f w', Below w.heap.size w w' → 0 ≤ f → f ≤ 1000000 → Calls Try.prog 25 #[.slice s n c, .int .i64 f] w' fun e w'' => e = .returned (.int .i64 (allV V f n)) ∧ Below w'.heap.size w' w'' := fun f w' hb f0 f1 => givenAt_any s n c V f w' (by omega) f0 f1 UA (HR.below hb)
    cases hl : inB 0 50000000 load
    · exact implFall_no2 s n c V load w (fun q => by have := inB_no hl; have := q.2.2; omega) hl K
    · obtain ⟨l0, l1⟩ := inB_yes hl
      by_cases ha : allV V 1000000 n < load
      · exact implFall_no3 s n c V load w (fun q => by have := q.2.2.2.2; omega) hl _ ha K (fun w' hb => AL 1000000 w' hb (by omega) (by omega))
      · have GO : goF n V load := ⟨hu.1, hu.2, l0, l1, by omega⟩
        obtain ⟨L, hL⟩ := lf_some GO
        exact implFall_on s n c V load w hl _ L (by omega) hL.1 hL.2.1 (.inr ⟨GO, hL⟩) hL.2.2 AL K (fun w' hb => AL 1000000 w' hb (by omega) (by omega))
end Go.Proofs.Ytgekkblfnfclmaa
