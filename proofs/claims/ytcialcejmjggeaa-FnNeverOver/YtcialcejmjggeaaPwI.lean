/-
What is proved: when machines are right and what they take at a tick, as the program tells it.
-/
import Derived.Test.YtcialcejmjggeaaPw
import Derived.Deep.RegionHeld3
import Derived.Deep.DeepCutAuto
namespace Go.Proofs.Ytcialcejmjggeaa
set_option maxRecDepth 40000
open Go.RowKit
set_option linter.unusedVariables false
set_option linter.unusedSimpArgs false

set_option maxHeartbeats 2000000 in
theorem machRight_any (a b c d : Int) (w : World) : Calls Try.prog 48 #[.agg #[.int .i64 a, .int .i64 b, .int .i64 c, .int .i64 d]] w fun e w' => e = .returned (.bool (machV a b c d)) ∧ Below w.heap.size w w' := by
  go_enter Try.func48, Try.ntmps48
  go_wp2_with fail
  refine (within_is _ _ _ _).mono ?_
  rintro e w1 ⟨rfl, rfl⟩
  cases h0 : inB 0 1000000 a
  · go_wp2
    go_ret
    exact ⟨ret_bool (by unfold machV; simp [h0]), (by repeat (first | with_reducible exact Below.refl _ _ | with_reducible refine Below.setCell ?_ (by first | omega | (simp; done) | (simp; omega)) _ | with_reducible refine bDrewN ?_ _ | with_reducible refine Below.drew ?_ | with_reducible refine Below.alloc ?_ (by first | omega | (simp; done) | (simp; omega)) _))⟩
  go_wp2_with fail
  refine (within_is _ _ _ _).mono ?_
  rintro e w1 ⟨rfl, rfl⟩
  cases h1 : inB 0 1000000 b
  · go_wp2
    go_ret
    exact ⟨ret_bool (by unfold machV; simp [h0, h1]), (by repeat (first | with_reducible exact Below.refl _ _ | with_reducible refine Below.setCell ?_ (by first | omega | (simp; done) | (simp; omega)) _ | with_reducible refine bDrewN ?_ _ | with_reducible refine Below.drew ?_ | with_reducible refine Below.alloc ?_ (by first | omega | (simp; done) | (simp; omega)) _))⟩
  go_wp2_with fail
  refine (within_is _ _ _ _).mono ?_
  rintro e w1 ⟨rfl, rfl⟩
  cases h2 : inB 1 20 c
  · go_wp2
    go_ret
    exact ⟨ret_bool (by unfold machV; simp [h0, h1, h2]), (by repeat (first | with_reducible exact Below.refl _ _ | with_reducible refine Below.setCell ?_ (by first | omega | (simp; done) | (simp; omega)) _ | with_reducible refine bDrewN ?_ _ | with_reducible refine Below.drew ?_ | with_reducible refine Below.alloc ?_ (by first | omega | (simp; done) | (simp; omega)) _))⟩
  go_wp2_with fail
  refine (within_is _ _ _ _).mono ?_
  rintro e w1 ⟨rfl, rfl⟩
  go_wp2
  go_ret
  exact ⟨ret_bool (by unfold machV; simp [h0, h1, h2]), (by repeat (first | with_reducible exact Below.refl _ _ | with_reducible refine Below.setCell ?_ (by first | omega | (simp; done) | (simp; omega)) _ | with_reducible refine bDrewN ?_ _ | with_reducible refine Below.drew ?_ | with_reducible refine Below.alloc ?_ (by first | omega | (simp; done) | (simp; omega)) _))⟩
set_option maxHeartbeats 2000000 in
theorem starts_any (a b c d f t : Int) (w : World) (f0 : -1 ≤ f) (f1 : f ≤ 1000000) (c0 : 1 ≤ c) (c1 : c ≤ 20) : Calls Try.prog 53 #[.agg #[.int .i64 a, .int .i64 b, .int .i64 c, .int .i64 d], .int .i64 f, .int .i64 t] w fun e w' => e = .returned (.bool (startB f t c)) ∧ Below w.heap.size w w' := by
  by_cases hf : f = -1
  · subst hf
    go_enter Try.func53, Try.ntmps53
    go_wp2
    go_ret
    exact ⟨ret_bool (by unfold startB; simp), (by repeat (first | with_reducible exact Below.refl _ _ | with_reducible refine Below.setCell ?_ (by first | omega | (simp; done) | (simp; omega)) _ | with_reducible refine bDrewN ?_ _ | with_reducible refine Below.drew ?_ | with_reducible refine Below.alloc ?_ (by first | omega | (simp; done) | (simp; omega)) _))⟩
  · have g0 : 0 ≤ f := by omega
    by_cases h1 : f ≤ t
    · have b1 : decide (f ≤ t) = true := by simpa using h1
      go_enter Try.func53, Try.ntmps53
      go_wp2
      go_ret
      exact ⟨ret_bool (by unfold startB; simp [g0, h1, hf]), (by repeat (first | with_reducible exact Below.refl _ _ | with_reducible refine Below.setCell ?_ (by first | omega | (simp; done) | (simp; omega)) _ | with_reducible refine bDrewN ?_ _ | with_reducible refine Below.drew ?_ | with_reducible refine Below.alloc ?_ (by first | omega | (simp; done) | (simp; omega)) _))⟩
    · have b1 : decide (f ≤ t) = false := by simpa using h1
      go_enter Try.func53, Try.ntmps53
      go_wp2
      go_ret
      exact ⟨ret_bool (by unfold startB; simp; intros; omega), (by repeat (first | with_reducible exact Below.refl _ _ | with_reducible refine Below.setCell ?_ (by first | omega | (simp; done) | (simp; omega)) _ | with_reducible refine bDrewN ?_ _ | with_reducible refine Below.drew ?_ | with_reducible refine Below.alloc ?_ (by first | omega | (simp; done) | (simp; omega)) _))⟩
set_option maxHeartbeats 2000000 in
theorem takes_any (a b c d f t : Int) (w : World) (f0 : -1 ≤ f) (f1 : f ≤ 1000000) (h : machV a b c d = true) : Calls Try.prog 52 #[.agg #[.int .i64 a, .int .i64 b, .int .i64 c, .int .i64 d], .int .i64 f, .int .i64 t] w fun e w' => e = .returned (.int .i64 (takesV a b c f t)) ∧ Below w.heap.size w w' := by
  obtain ⟨⟨a0, a1⟩, ⟨b0, b1⟩, ⟨c0, c1⟩, -⟩ := machV_yes h
  clear h
  by_cases hf : f = -1
  · subst hf
    go_enter Try.func52, Try.ntmps52
    go_wp2
    go_ret
    exact ⟨ret_int (by unfold takesV; simp), (by repeat (first | with_reducible exact Below.refl _ _ | with_reducible refine Below.setCell ?_ (by first | omega | (simp; done) | (simp; omega)) _ | with_reducible refine bDrewN ?_ _ | with_reducible refine Below.drew ?_ | with_reducible refine Below.alloc ?_ (by first | omega | (simp; done) | (simp; omega)) _))⟩
  · have g0 : 0 ≤ f := by omega
    by_cases h1 : f ≤ t
    · have x1 : (f == -1) = false := by simpa using hf
      have x2 : decide (t < f) = false := by simp; omega
      have S := starts_any a b c d f t
      have b2 : startB f t c = decide (t < f + c) := by unfold startB; simp [g0, h1]
      rw [b2] at S
      clear b2
      have e1 : takesV a b c f t = if t < f + c then a + b else a := by unfold takesV; rw [if_neg (by omega)]
      rw [e1]
      clear e1
      have HS : Hid _ := S
      clear S
      by_cases h2 : t < f + c
      · rw [if_pos h2]
        rw [decide_eq_true h2] at HS
        go_enter Try.func52, Try.ntmps52
        go_wp2_with fail
        refine (HS.out _ f0 f1 c0 c1).mono ?_
        rintro e w1 ⟨rfl, k1⟩
        obtain ⟨hc, hq⟩ := bcell k1
        have q0 := hc w.heap.size 0 (by first | omega | (simp; done) | (simp; omega))
        have q1 := hc w.heap.size 1 (by first | omega | (simp; done) | (simp; omega))
        simp [go_sem] at q0 q1
        have z1 : w.heap.size < w1.heap.size := by have := k1.size; simp at this; omega
        have B1 : Below w.heap.size w w1 := Below.trans (by repeat (first | with_reducible exact Below.refl _ _ | with_reducible refine Below.setCell ?_ (by first | omega | (simp; done) | (simp; omega)) _ | with_reducible refine bDrewN ?_ _ | with_reducible refine Below.drew ?_ | with_reducible refine Below.alloc ?_ (by first | omega | (simp; done) | (simp; omega)) _)) (k1.mono (by first | omega | (simp; done) | (simp; omega)))
        clear hc hq k1
        go_wp2
        go_ret
        exact ⟨rfl, (by repeat (first | with_reducible exact Below.refl _ _ | with_reducible exact B1 | with_reducible refine Below.setCell ?_ (by first | omega | (simp; done) | (simp; omega)) _ | with_reducible refine bDrewN ?_ _ | with_reducible refine Below.drew ?_ | with_reducible refine Below.alloc ?_ (by first | omega | (simp; done) | (simp; omega)) _))⟩
      · rw [if_neg h2]
        rw [decide_eq_false h2] at HS
        go_enter Try.func52, Try.ntmps52
        go_wp2_with fail
        refine (HS.out _ f0 f1 c0 c1).mono ?_
        rintro e w1 ⟨rfl, k1⟩
        obtain ⟨hc, hq⟩ := bcell k1
        have q0 := hc w.heap.size 0 (by first | omega | (simp; done) | (simp; omega))
        simp [go_sem] at q0
        have z1 : w.heap.size < w1.heap.size := by have := k1.size; simp at this; omega
        have B1 : Below w.heap.size w w1 := Below.trans (by repeat (first | with_reducible exact Below.refl _ _ | with_reducible refine Below.setCell ?_ (by first | omega | (simp; done) | (simp; omega)) _ | with_reducible refine bDrewN ?_ _ | with_reducible refine Below.drew ?_ | with_reducible refine Below.alloc ?_ (by first | omega | (simp; done) | (simp; omega)) _)) (k1.mono (by first | omega | (simp; done) | (simp; omega)))
        clear hc hq k1
        go_wp2
        go_ret
        exact ⟨rfl, (by repeat (first | with_reducible exact Below.refl _ _ | with_reducible exact B1 | with_reducible refine Below.setCell ?_ (by first | omega | (simp; done) | (simp; omega)) _ | with_reducible refine bDrewN ?_ _ | with_reducible refine Below.drew ?_ | with_reducible refine Below.alloc ?_ (by first | omega | (simp; done) | (simp; omega)) _))⟩
    · have h2 : t < f := by omega
      go_enter Try.func52, Try.ntmps52
      go_wp2
      go_ret
      exact ⟨ret_int (by unfold takesV; rw [if_pos (by omega)]), (by repeat (first | with_reducible exact Below.refl _ _ | with_reducible refine Below.setCell ?_ (by first | omega | (simp; done) | (simp; omega)) _ | with_reducible refine bDrewN ?_ _ | with_reducible refine Below.drew ?_ | with_reducible refine Below.alloc ?_ (by first | omega | (simp; done) | (simp; omega)) _))⟩
set_option maxRecDepth 20000 in
set_option maxHeartbeats 2000000 in
theorem machinesOk_any (s : Option Addr) (n c : Nat) (V : Nat → Int) (w : World) (HR : Hid (RowI w s (n * 4) V)) :
    Calls Try.prog 29 #[.slice s n c] w fun e w' => e = .returned (.bool (machsB n V)) ∧ Below w.heap.size w w' := by
  by_cases hn : 60 < n
  · have hn' : (60 : Int) < n := by omega
    rw [machs_far hn]
    go_enter Try.func29, Try.ntmps29
    go_wp2
    go_ret
    exact ⟨rfl, (by repeat (first | with_reducible exact Below.refl _ _ | with_reducible refine Below.setCell ?_ (by first | omega | (simp; done) | (simp; omega)) _ | with_reducible refine bDrewN ?_ _ | with_reducible refine Below.drew ?_ | with_reducible refine Below.alloc ?_ (by first | omega | (simp; done) | (simp; omega)) _))⟩
  have hn' : (n : Int) ≤ 60 := by omega
  go_enter Try.func29, Try.ntmps29
  go_wp2_with fail
  go_loopw [10] (fun i wr => ∃ k : Nat, k ≤ n ∧ i = .int .i64 k ∧ Below w.heap.size w wr ∧ ∀ j, j < k → machB V j = true) (fun i _ => n - (intOf i).toNat)
  case atStart => exact ⟨0, Nat.zero_le _, rfl, Below.refl _ _, fun j hj => by omega⟩
  case round =>
    obtain ⟨k, hk, rfl, hB, hP⟩ := hrel
    have HP : Hid (∀ j, j < k → machB V j = true) := hP
    clear hP
    by_cases h1 : k < n
    · have HN : Hid (k < n) := h1
      obtain ⟨g, o, rfl, hg, c0⟩ := HR.out (k * 4) (by omega)
      obtain ⟨g', o', e', hg1, c1⟩ := HR.out (k * 4 + 1) (by omega)
      cases e'
      obtain ⟨g', o', e', hg2, c2⟩ := HR.out (k * 4 + 2) (by omega)
      cases e'
      obtain ⟨g', o', e', hg3, c3⟩ := HR.out (k * 4 + 3) (by omega)
      cases e'
      have d0 : wr.cell? ⟨g, o + k * 4, none⟩ = some (.int .i64 (V (k * 4))) := (hB.cell (p := ⟨g, o + k * 4, none⟩) hg).trans c0
      have d1 : wr.cell? ⟨g, o + k * 4 + 1, none⟩ = some (.int .i64 (V (k * 4 + 1))) := (hB.cell (p := ⟨g, o + (k * 4 + 1), none⟩) hg).trans c1
      have d2 : wr.cell? ⟨g, o + k * 4 + 2, none⟩ = some (.int .i64 (V (k * 4 + 2))) := (hB.cell (p := ⟨g, o + (k * 4 + 2), none⟩) hg).trans c2
      have d3 : wr.cell? ⟨g, o + k * 4 + 3, none⟩ = some (.int .i64 (V (k * 4 + 3))) := (hB.cell (p := ⟨g, o + (k * 4 + 3), none⟩) hg).trans c3
      have k1 : (k : Int) < (n : Int) := by omega
      have zg : g < wr.heap.size := Nat.lt_of_lt_of_le hg hB.size
      have HB : Hid (Below w.heap.size w wr) := hB
      have sB := hB.size
      clear hB c0 c1 c2 c3 hg hg1 hg2 hg3
      go_wp2_with fail
      refine (machRight_any _ _ _ _ _).mono ?_
      rintro r w3 ⟨rfl, h3⟩
      have B3 : Below w.heap.size w w3 := HB.out.trans ((Below.trans (by repeat (first | with_reducible exact Below.refl _ _ | with_reducible refine Below.setCell ?_ (by first | omega | (simp; done) | (simp; omega)) _ | with_reducible refine bDrewN ?_ _ | with_reducible refine Below.drew ?_ | with_reducible refine Below.alloc ?_ (by first | omega | (simp; done) | (simp; omega)) _)) (h3.mono (by first | omega | (simp; done) | (simp; omega))) : Below wr.heap.size wr w3).mono sB)
      clear h3 d0 d1 d2 d3 zg HB
      cases hm : machV (V (k * 4)) (V (k * 4 + 1)) (V (k * 4 + 2)) (V (k * 4 + 3))
      · have NO := machs_no (V := V) HN.out hm
        go_wp2
        go_ret
        exact ⟨ret_bool NO.symm, (by repeat (first | with_reducible exact Below.refl _ _ | with_reducible exact B3 | with_reducible refine Below.setCell ?_ (by first | omega | (simp; done) | (simp; omega)) _ | with_reducible refine bDrewN ?_ _ | with_reducible refine Below.drew ?_ | with_reducible refine Below.alloc ?_ (by first | omega | (simp; done) | (simp; omega)) _))⟩
      · have HM : Hid (machB V k = true) := hm
        clear hm
        go_wp2
        go_round
        case rel => exact ⟨k + 1, by omega, by go_num, (by repeat (first | with_reducible exact Below.refl _ _ | with_reducible exact B3 | with_reducible refine Below.setCell ?_ (by first | omega | (simp; done) | (simp; omega)) _ | with_reducible refine bDrewN ?_ _ | with_reducible refine Below.drew ?_ | with_reducible refine Below.alloc ?_ (by first | omega | (simp; done) | (simp; omega)) _)), ball_succ HP.out HM.out⟩
        case measure => simp [intOf]; omega
    · obtain rfl : k = n := by omega
      have YES := machs_all (V := V) (by omega) HP.out
      go_wp2
      go_ret
      exact ⟨ret_bool YES.symm, (by repeat (first | with_reducible exact Below.refl _ _ | with_reducible exact hB | with_reducible refine Below.setCell ?_ (by first | omega | (simp; done) | (simp; omega)) _ | with_reducible refine bDrewN ?_ _ | with_reducible refine Below.drew ?_ | with_reducible refine Below.alloc ?_ (by first | omega | (simp; done) | (simp; omega)) _))⟩
set_option maxRecDepth 20000 in
set_option maxHeartbeats 4000000 in
theorem takenAt_any (s : Option Addr) (n c : Nat) (V : Nat → Int) (u : Option Addr) (m e : Nat) (T : Nat → Int) (t : Int) (w : World) (hm : m = n) (hn : n ≤ 60) (HM : Hid (∀ j, j < n → machB V j = true)) (HT : Hid (∀ j, j < n → -1 ≤ T j ∧ T j ≤ 1000000)) (HR : Hid (RowI w s (n * 4) V)) (HU : Hid (RowI w u m T)) :
    Calls Try.prog 40 #[.slice s n c, .slice u m e, .int .i64 t] w fun e w' => e = .returned (.int .i64 (powV V T t n)) ∧ Below w.heap.size w w' := by
  subst hm
  go_enter Try.func40, Try.ntmps40
  go_wp2_with fail
  go_loopw [7, 12] (fun q i wr => ∃ k : Nat, k ≤ m ∧ i = .int .i64 k ∧ q = .int .i64 (powV V T t k) ∧ Below w.heap.size w wr) (fun _ i _ => m - (intOf i).toNat)
  case atStart => exact ⟨0, Nat.zero_le _, rfl, rfl, Below.refl _ _⟩
  case round =>
    obtain ⟨k, hk, rfl, rfl, hB⟩ := hrel
    by_cases h1 : k < m
    · have HN : Hid (k < m) := h1
      obtain ⟨p, hp⟩ : ∃ p, powV V T t k = p := ⟨_, rfl⟩
      obtain ⟨x, hx⟩ : ∃ x, takesV (V (k * 4)) (V (k * 4 + 1)) (V (k * 4 + 2)) (T k) t = x := ⟨_, rfl⟩
      have pb := pow_bd V T t k fun j hj => HM.out j (by omega)
      obtain ⟨ma, mb, -, -⟩ := machV_yes (HM.out k h1)
      have xb := takes_bd (V (k * 4)) (V (k * 4 + 1)) (V (k * 4 + 2)) (T k) t ma mb
      rw [hp] at pb ⊢
      rw [hx] at xb
      have HX : Hid (powV V T t (k + 1) = p + x) := show powV V T t k + takesV _ _ _ _ _ = _ by rw [hp, hx]
      obtain ⟨pb0, pb1⟩ := pb
      obtain ⟨xb0, xb1⟩ := xb
      have wpx : IntKind.i64.wrap (p + x) = p + x := wrap_in (by omega) (by omega)
      have CL : Hid (∀ w, Calls Try.prog 52 #[.agg #[.int .i64 (V (k * 4)), .int .i64 (V (k * 4 + 1)), .int .i64 (V (k * 4 + 2)), .int .i64 (V (k * 4 + 3))], .int .i64 (T k), .int .i64 t] w fun e w' => e = .returned (.int .i64 x) ∧ Below w.heap.size w w') := fun w => hx ▸ takes_any _ _ _ _ _ _ w (HT.out k h1).1 (HT.out k h1).2 (HM.out k h1)
      obtain ⟨g, o, rfl, hg, c0⟩ := HR.out (k * 4) (by omega)
      obtain ⟨g', o', e', hg1, c1⟩ := HR.out (k * 4 + 1) (by omega)
      cases e'
      obtain ⟨g', o', e', hg2, c2⟩ := HR.out (k * 4 + 2) (by omega)
      cases e'
      obtain ⟨g', o', e', hg3, c3⟩ := HR.out (k * 4 + 3) (by omega)
      cases e'
      have d0 : wr.cell? ⟨g, o + k * 4, none⟩ = some (.int .i64 (V (k * 4))) := (hB.cell (p := ⟨g, o + k * 4, none⟩) hg).trans c0
      have d1 : wr.cell? ⟨g, o + k * 4 + 1, none⟩ = some (.int .i64 (V (k * 4 + 1))) := (hB.cell (p := ⟨g, o + (k * 4 + 1), none⟩) hg).trans c1
      have d2 : wr.cell? ⟨g, o + k * 4 + 2, none⟩ = some (.int .i64 (V (k * 4 + 2))) := (hB.cell (p := ⟨g, o + (k * 4 + 2), none⟩) hg).trans c2
      have d3 : wr.cell? ⟨g, o + k * 4 + 3, none⟩ = some (.int .i64 (V (k * 4 + 3))) := (hB.cell (p := ⟨g, o + (k * 4 + 3), none⟩) hg).trans c3
      obtain ⟨y, z, rfl, hy, e0⟩ := HU.out k h1
      have f0 : wr.cell? ⟨y, z + k, none⟩ = some (.int .i64 (T k)) := (hB.cell (p := ⟨y, z + k, none⟩) hy).trans e0
      have k1 : (k : Int) < (m : Int) := by omega
      have zg : g < wr.heap.size := Nat.lt_of_lt_of_le hg hB.size
      have zy : y < wr.heap.size := Nat.lt_of_lt_of_le hy hB.size
      have HB : Hid (Below w.heap.size w wr) := hB
      have sB := hB.size
      clear hB c0 c1 c2 c3 hg hg1 hg2 hg3 hy e0 ma mb hp hx
      go_wp2_with fail
      go_upto_region 5 with fail
      obtain ⟨wd, hwd⟩ : ∃ wd, wd = (wr.alloc (.cells #[.int .i64 (V (k * 4)), .int .i64 (V (k * 4 + 1)), .int .i64 (V (k * 4 + 2)), .int .i64 (V (k * 4 + 3))] 41)) := ⟨_, rfl⟩
      rw [← hwd]
      have BD : Below wr.heap.size wr wd := by rw [hwd]; exact (by repeat (first | with_reducible exact Below.refl _ _ | with_reducible refine Below.setCell ?_ (by first | omega | (simp; done) | (simp; omega)) _ | with_reducible refine bDrewN ?_ _ | with_reducible refine Below.drew ?_ | with_reducible refine Below.alloc ?_ (by first | omega | (simp; done) | (simp; omega)) _))
      have v0 : wd.cell? ⟨wr.heap.size, 0, none⟩ = some (.int .i64 (V (k * 4))) := by rw [hwd]; simp [go_sem]
      have v1 : wd.cell? ⟨wr.heap.size, 1, none⟩ = some (.int .i64 (V (k * 4 + 1))) := by rw [hwd]; simp [go_sem]
      have v2 : wd.cell? ⟨wr.heap.size, 2, none⟩ = some (.int .i64 (V (k * 4 + 2))) := by rw [hwd]; simp [go_sem]
      have v3 : wd.cell? ⟨wr.heap.size, 3, none⟩ = some (.int .i64 (V (k * 4 + 3))) := by rw [hwd]; simp [go_sem]
      have zv : wr.heap.size < wd.heap.size := by rw [hwd]; simp
      have f1 : wd.cell? ⟨y, z + k, none⟩ = some (.int .i64 (T k)) := (BD.cell (p := ⟨y, z + k, none⟩) zy).trans f0
      have zy1 : y < wd.heap.size := by omega
      clear hwd d0 d1 d2 d3 f0 zg
      go_region_held3 (fun w' => w'.cell? ⟨wr.heap.size, 0, none⟩ = some (.int .i64 (V (k * 4))) ∧ w'.cell? ⟨wr.heap.size, 1, none⟩ = some (.int .i64 (V (k * 4 + 1))) ∧ w'.cell? ⟨wr.heap.size, 2, none⟩ = some (.int .i64 (V (k * 4 + 2))) ∧ w'.cell? ⟨wr.heap.size, 3, none⟩ = some (.int .i64 (V (k * 4 + 3))) ∧ w'.cell? ⟨y, z + k, none⟩ = some (.int .i64 (T k))) (first | (refine keepM5 v0 v1 v2 v3 f1 zv zy1 ?_; exact (by repeat (first | with_reducible exact Below.refl _ _ | with_reducible exact B3 | with_reducible refine Below.setCell ?_ (by first | omega | (simp; done) | (simp; omega)) _ | with_reducible refine bDrewN ?_ _ | with_reducible refine Below.drew ?_ | with_reducible refine Below.alloc ?_ (by first | omega | (simp; done) | (simp; omega)) _)))) (first
        | (go_at_call 52; refine (CL.out _).mono ?_; rintro r w3 ⟨rfl, h3⟩; have B3 : Below wd.heap.size wd w3 := Below.trans (by repeat (first | with_reducible exact Below.refl _ _ | with_reducible refine Below.setCell ?_ (by first | omega | (simp; done) | (simp; omega)) _ | with_reducible refine bDrewN ?_ _ | with_reducible refine Below.drew ?_ | with_reducible refine Below.alloc ?_ (by first | omega | (simp; done) | (simp; omega)) _)) (h3.mono (by first | omega | (simp; done) | (simp; omega)))))
      all_goals
        have B4 : Below w.heap.size w w3 := HB.out.trans ((BD.trans (B3.mono BD.size)).mono sB)
        go_wp2
        go_round
        case rel => exact ⟨k + 1, by omega, by go_num, by rw [HX.out]; try first | rfl | (rw [wpx]; done) | (simp [wpx]; done) | go_num, (by repeat (first | with_reducible exact Below.refl _ _ | with_reducible exact B4 | with_reducible refine Below.setCell ?_ (by first | omega | (simp; done) | (simp; omega)) _ | with_reducible refine bDrewN ?_ _ | with_reducible refine Below.drew ?_ | with_reducible refine Below.alloc ?_ (by first | omega | (simp; done) | (simp; omega)) _))⟩
        case measure => simp [intOf]; omega
    · obtain rfl : k = m := by omega
      go_wp2
      go_ret
      exact ⟨rfl, (by repeat (first | with_reducible exact Below.refl _ _ | with_reducible exact hB | with_reducible refine Below.setCell ?_ (by first | omega | (simp; done) | (simp; omega)) _ | with_reducible refine bDrewN ?_ _ | with_reducible refine Below.drew ?_ | with_reducible refine Below.alloc ?_ (by first | omega | (simp; done) | (simp; omega)) _))⟩
end Go.Proofs.Ytcialcejmjggeaa
