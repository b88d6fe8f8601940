/-
What is proved: the specification's balance of a gas.
-/
import Derived.Test.YtnimndpphphcnaaBal
import Derived.Deep.RegionHeld3
import Derived.Deep.DeepCutAuto
namespace Go.Proofs.Ytnimndpphphcnaa
set_option maxRecDepth 40000
open Go.RowKit
set_option linter.unusedVariables false

set_option maxHeartbeats 1000000 in
theorem l2Over_any (a b c d n e x : Int) (w : World) (ha : 0 ≤ a) (ha' : a ≤ 10000) (hb : 0 ≤ b) (hb' : b ≤ 10000) (hc : 0 ≤ c) (hc' : c ≤ 10000) (hd : 0 ≤ d) (hd' : d ≤ 10000) (hx : -10000 ≤ x) (hx' : x ≤ 10000)
    (p1 : 0 ≤ n * (a - x)) (p1' : n * (a - x) ≤ 20000000) (p2 : 0 ≤ n * (a - x) * (b - x)) (p2' : n * (a - x) * (b - x) ≤ 400000000000) (p3 : 0 ≤ (c + x) * (d + x)) (p3' : (c + x) * (d + x) ≤ 400000000) (p4 : 0 ≤ (c + x) * (d + x) * e) (p4' : (c + x) * (d + x) * e ≤ 400000000000) :
    Calls Try.prog 31 #[.agg #[.int .i64 a, .int .i64 b, .int .i64 c, .int .i64 d], .agg #[.int .i64 n, .int .i64 e], .int .i64 x] w fun r w' => r = .returned (.int .i64 (overV a b c d n e x)) ∧ Below w.heap.size w w' := by
  unfold overV
  go_enter Try.func31, Try.ntmps31
  go_wp2
  go_ret
  exact ⟨rfl, (by repeat (first | with_reducible exact Below.refl _ _ | with_reducible refine Below.setCell ?_ (by first | omega | (simp; done) | (simp; omega)) _ | with_reducible refine bDrewN ?_ _ | with_reducible refine Below.drew ?_ | with_reducible refine Below.alloc ?_ (by first | omega | (simp; done) | (simp; omega)) _))⟩

theorem wrap_i64s {x : Int} (h0 : -9223372036854775808 ≤ x) (h1 : x ≤ 9223372036854775807) : IntKind.i64.wrap x = x := by
  rw [IntKind.wrap_i64]; omega
theorem keep6 {W W' : World} {p q B : Nat} {a b c d n e : Value} (h0 : W.cell? ⟨p, 0, none⟩ = some a) (h1 : W.cell? ⟨p, 1, none⟩ = some b) (h2 : W.cell? ⟨p, 2, none⟩ = some c) (h3 : W.cell? ⟨p, 3, none⟩ = some d) (h4 : W.cell? ⟨q, 0, none⟩ = some n) (h5 : W.cell? ⟨q, 1, none⟩ = some e) (hp : p < B) (hq : q < B) (hb : Below B W W') :
    W'.cell? ⟨p, 0, none⟩ = some a ∧ W'.cell? ⟨p, 1, none⟩ = some b ∧ W'.cell? ⟨p, 2, none⟩ = some c ∧ W'.cell? ⟨p, 3, none⟩ = some d ∧ W'.cell? ⟨q, 0, none⟩ = some n ∧ W'.cell? ⟨q, 1, none⟩ = some e :=
  ⟨(hb.cell (p := ⟨p, 0, none⟩) hp).trans h0, (hb.cell (p := ⟨p, 1, none⟩) hp).trans h1, (hb.cell (p := ⟨p, 2, none⟩) hp).trans h2, (hb.cell (p := ⟨p, 3, none⟩) hp).trans h3, (hb.cell (p := ⟨q, 0, none⟩) hq).trans h4, (hb.cell (p := ⟨q, 1, none⟩) hq).trans h5⟩

set_option maxHeartbeats 2000000 in
theorem specBal_yes (a b c d n e X t : Int) (w : World) (ha : 0 ≤ a) (ha' : a ≤ 10000) (hb : 0 ≤ b) (hb' : b ≤ 10000) (hc : 0 ≤ c) (hc' : c ≤ 10000) (hd : 0 ≤ d) (hd' : d ≤ 10000) (hn : 1 ≤ n) (hn' : n ≤ 1000) (he : 1 ≤ e) (he' : e ≤ 1000)
    (F : Hid (∀ w, Calls Try.prog 30 #[.agg #[.int .i64 n, .int .i64 e]] w fun r w' => r = .returned (.bool true) ∧ Below w.heap.size w w'))
    (I : Hid (∀ (x lo hi : Int) (w : World), lo ≤ x → x ≤ hi → Calls Try.prog 29 #[.int .i64 x, .int .i64 lo, .int .i64 hi] w fun r w' => r = .returned (.bool true) ∧ w' = w))
    (O : Hid (∀ (x : Int) w, X ≤ x → x ≤ t → Calls Try.prog 31 #[.agg #[.int .i64 a, .int .i64 b, .int .i64 c, .int .i64 d], .agg #[.int .i64 n, .int .i64 e], .int .i64 x] w fun r w' => r = .returned (.int .i64 (overV a b c d n e x)) ∧ Below w.heap.size w w'))
    (ht : (if b < a then b else a) = t) (hX : -10000 ≤ X) (hXt : X ≤ t) (ht' : t ≤ 10000)
    (HB : Hid (Bal a b c d n e X)) (HT : Hid (t = min a b)) :
    Calls Try.prog 9 #[.agg #[.int .i64 a, .int .i64 b, .int .i64 c, .int .i64 d], .agg #[.int .i64 n, .int .i64 e]] w fun r w' => r = .returned (.tuple #[.agg #[.int .i64 (a - X), .int .i64 (b - X), .int .i64 (c + X), .int .i64 (d + X)], .int .i64 (overV a b c d n e X), .bool true]) ∧ Below w.heap.size w w' := by
  go_enter Try.func9, Try.ntmps9
  go_wp2_with (first
    | (go_at_call 29; refine (I.out _ _ _ _ ?_ ?_).mono ?_; omega; omega; rintro r w1 ⟨rfl, rfl⟩))
  refine (F.out _).mono ?_
  rintro r w2 ⟨rfl, hf⟩
  have B2 : Below w.heap.size w w2 := Below.trans (by repeat (first | with_reducible exact Below.refl _ _ | with_reducible refine Below.setCell ?_ (by first | omega | (simp; done) | (simp; omega)) _ | with_reducible refine bDrewN ?_ _ | with_reducible refine Below.drew ?_ | with_reducible refine Below.alloc ?_ (by first | omega | (simp; done) | (simp; omega)) _)) (hf.mono (by first | omega | (simp; done) | (simp; omega)))
  have z2 : w.heap.size + 2 < w2.heap.size := by have := hf.size; simp at this; omega
  have z2a : w.heap.size + 1 < w2.heap.size := by omega
  have z2b : w.heap.size < w2.heap.size := by omega
  have q0 : w2.cell? ⟨w.heap.size, 0, none⟩ = some (.int .i64 a) := by rw [hf.cell (by first | omega | (simp; done) | (simp; omega))]; simp [go_sem]
  have q1 : w2.cell? ⟨w.heap.size, 1, none⟩ = some (.int .i64 b) := by rw [hf.cell (by first | omega | (simp; done) | (simp; omega))]; simp [go_sem]
  have q2 : w2.cell? ⟨w.heap.size, 2, none⟩ = some (.int .i64 c) := by rw [hf.cell (by first | omega | (simp; done) | (simp; omega))]; simp [go_sem]
  have q3 : w2.cell? ⟨w.heap.size, 3, none⟩ = some (.int .i64 d) := by rw [hf.cell (by first | omega | (simp; done) | (simp; omega))]; simp [go_sem]
  have r0 : w2.cell? ⟨w.heap.size + 1, 0, none⟩ = some (.int .i64 n) := by rw [hf.cell (by first | omega | (simp; done) | (simp; omega))]; simp [go_sem]
  have r1 : w2.cell? ⟨w.heap.size + 1, 1, none⟩ = some (.int .i64 e) := by rw [hf.cell (by first | omega | (simp; done) | (simp; omega))]; simp [go_sem]
  have s0 : w2.cell? ⟨w.heap.size + 2, 0, none⟩ = some (.int .i64 0) := by rw [hf.cell (by first | omega | (simp; done) | (simp; omega))]; simp [go_sem]
  have s1 : w2.cell? ⟨w.heap.size + 2, 1, none⟩ = some (.int .i64 0) := by rw [hf.cell (by first | omega | (simp; done) | (simp; omega))]; simp [go_sem]
  have s2 : w2.cell? ⟨w.heap.size + 2, 2, none⟩ = some (.int .i64 0) := by rw [hf.cell (by first | omega | (simp; done) | (simp; omega))]; simp [go_sem]
  have s3 : w2.cell? ⟨w.heap.size + 2, 3, none⟩ = some (.int .i64 0) := by rw [hf.cell (by first | omega | (simp; done) | (simp; omega))]; simp [go_sem]
  have fy : ∀ o, w2.frozen? ⟨w.heap.size + 2, o, none⟩ = false := fun o => by rw [hf.frozen (by first | omega | (simp; done) | (simp; omega))]; simp [go_sem]
  clear hf
  go_wp2_with (first
    | (go_at_call 29; refine (I.out _ _ _ _ ?_ ?_).mono ?_; omega; omega; rintro r w1 ⟨rfl, rfl⟩))
  go_loopw [7] (fun i wr => ∃ x, i = .int .i64 x ∧ X ≤ x ∧ x ≤ t ∧ Below w1.heap.size w1 wr) (fun i _ => (intOf i - X).toNat)
  case atStart => exact ⟨t, rfl, hXt, Int.le_refl _, Below.refl _ _⟩
  case round =>
    obtain ⟨x, rfl, x1, x2, hbr⟩ := hrel
    have q0' : wr.cell? ⟨w.heap.size, 0, none⟩ = some (.int .i64 a) := (hbr.cell (p := ⟨w.heap.size, 0, none⟩) z2b).trans q0
    have q1' : wr.cell? ⟨w.heap.size, 1, none⟩ = some (.int .i64 b) := (hbr.cell (p := ⟨w.heap.size, 1, none⟩) z2b).trans q1
    have q2' : wr.cell? ⟨w.heap.size, 2, none⟩ = some (.int .i64 c) := (hbr.cell (p := ⟨w.heap.size, 2, none⟩) z2b).trans q2
    have q3' : wr.cell? ⟨w.heap.size, 3, none⟩ = some (.int .i64 d) := (hbr.cell (p := ⟨w.heap.size, 3, none⟩) z2b).trans q3
    have r0' : wr.cell? ⟨w.heap.size + 1, 0, none⟩ = some (.int .i64 n) := (hbr.cell (p := ⟨w.heap.size + 1, 0, none⟩) z2a).trans r0
    have r1' : wr.cell? ⟨w.heap.size + 1, 1, none⟩ = some (.int .i64 e) := (hbr.cell (p := ⟨w.heap.size + 1, 1, none⟩) z2a).trans r1
    have s0' : wr.cell? ⟨w.heap.size + 2, 0, none⟩ = some (.int .i64 0) := (hbr.cell (p := ⟨w.heap.size + 2, 0, none⟩) z2).trans s0
    have s1' : wr.cell? ⟨w.heap.size + 2, 1, none⟩ = some (.int .i64 0) := (hbr.cell (p := ⟨w.heap.size + 2, 1, none⟩) z2).trans s1
    have s2' : wr.cell? ⟨w.heap.size + 2, 2, none⟩ = some (.int .i64 0) := (hbr.cell (p := ⟨w.heap.size + 2, 2, none⟩) z2).trans s2
    have s3' : wr.cell? ⟨w.heap.size + 2, 3, none⟩ = some (.int .i64 0) := (hbr.cell (p := ⟨w.heap.size + 2, 3, none⟩) z2).trans s3
    have y2 : w.heap.size + 2 < wr.heap.size := Nat.lt_of_lt_of_le z2 hbr.size
    have y2a : w.heap.size + 1 < wr.heap.size := by omega
    have y2b : w.heap.size < wr.heap.size := by omega
    have ky : ∀ o, wr.frozen? ⟨w.heap.size + 2, o, none⟩ = false := fun o => (hbr.frozen (p := ⟨w.heap.size + 2, o, none⟩) z2).trans (fy o)
    have BR : Hid (Below w1.heap.size w1 wr) := hbr
    clear q0 q1 q2 q3 r0 r1 s0 s1 s2 s3 hbr
    go_wp2_with fail
    refine (O.out x _ x1 x2).mono ?_
    rintro r w3 ⟨rfl, hb3⟩
    have B3 : Below w1.heap.size w1 w3 := Below.trans BR.out (hb3.mono BR.out.size)
    by_cases sg : overV a b c d n e x < 0
    · have x3 : X ≤ x - 1 := HB.out.on x1 sg
      go_wp2
      go_round
      case rel => exact ⟨x - 1, by go_num, x3, by omega, B3⟩
      case measure => simp [intOf]; omega
    · obtain rfl : x = X := HB.out.stop x1 (by have := HT.out; omega) (by omega)
      have q0 : w3.cell? ⟨w.heap.size, 0, none⟩ = some (.int .i64 a) := (hb3.cell (p := ⟨w.heap.size, 0, none⟩) y2b).trans q0'
      have q1 : w3.cell? ⟨w.heap.size, 1, none⟩ = some (.int .i64 b) := (hb3.cell (p := ⟨w.heap.size, 1, none⟩) y2b).trans q1'
      have q2 : w3.cell? ⟨w.heap.size, 2, none⟩ = some (.int .i64 c) := (hb3.cell (p := ⟨w.heap.size, 2, none⟩) y2b).trans q2'
      have q3 : w3.cell? ⟨w.heap.size, 3, none⟩ = some (.int .i64 d) := (hb3.cell (p := ⟨w.heap.size, 3, none⟩) y2b).trans q3'
      have r0 : w3.cell? ⟨w.heap.size + 1, 0, none⟩ = some (.int .i64 n) := (hb3.cell (p := ⟨w.heap.size + 1, 0, none⟩) y2a).trans r0'
      have r1 : w3.cell? ⟨w.heap.size + 1, 1, none⟩ = some (.int .i64 e) := (hb3.cell (p := ⟨w.heap.size + 1, 1, none⟩) y2a).trans r1'
      have s0 : w3.cell? ⟨w.heap.size + 2, 0, none⟩ = some (.int .i64 0) := (hb3.cell (p := ⟨w.heap.size + 2, 0, none⟩) y2).trans s0'
      have s1 : w3.cell? ⟨w.heap.size + 2, 1, none⟩ = some (.int .i64 0) := (hb3.cell (p := ⟨w.heap.size + 2, 1, none⟩) y2).trans s1'
      have s2 : w3.cell? ⟨w.heap.size + 2, 2, none⟩ = some (.int .i64 0) := (hb3.cell (p := ⟨w.heap.size + 2, 2, none⟩) y2).trans s2'
      have s3 : w3.cell? ⟨w.heap.size + 2, 3, none⟩ = some (.int .i64 0) := (hb3.cell (p := ⟨w.heap.size + 2, 3, none⟩) y2).trans s3'
      have fz : ∀ o, w3.frozen? ⟨w.heap.size + 2, o, none⟩ = false := fun o => (hb3.frozen (p := ⟨w.heap.size + 2, o, none⟩) y2).trans (ky o)
      have v2 : w.heap.size + 2 < w3.heap.size := Nat.lt_of_lt_of_le y2 hb3.size
      have v2a : w.heap.size + 1 < w3.heap.size := by omega
      have v2b : w.heap.size < w3.heap.size := by omega
      have BW : Below w.heap.size w w3 := Below.trans B2 (B3.mono (by omega))
      have sg' : (overV a b c d n e x < 0) = False := by simpa using sg
      clear q0' q1' q2' q3' r0' r1' s0' s1' s2' s3' hb3 BR ky y2 y2a y2b z2 z2a z2b B2 B3 fy
      go_wp2_with fail
      go_region_held3 (fun w' => w'.cell? ⟨w.heap.size, 0, none⟩ = some (.int .i64 a) ∧ w'.cell? ⟨w.heap.size, 1, none⟩ = some (.int .i64 b) ∧ w'.cell? ⟨w.heap.size, 2, none⟩ = some (.int .i64 c) ∧ w'.cell? ⟨w.heap.size, 3, none⟩ = some (.int .i64 d) ∧ w'.cell? ⟨w.heap.size + 1, 0, none⟩ = some (.int .i64 n) ∧ w'.cell? ⟨w.heap.size + 1, 1, none⟩ = some (.int .i64 e)) (first | (refine keep6 q0 q1 q2 q3 r0 r1 (by omega) (by omega) (B := w.heap.size + 2) ?_; exact (by repeat (first | with_reducible exact Below.refl _ _ | with_reducible exact B4 | with_reducible refine Below.setCell ?_ (by first | omega | (simp; done) | (simp; omega)) _ | with_reducible refine bDrewN ?_ _ | with_reducible refine Below.drew ?_ | with_reducible refine Below.alloc ?_ (by first | omega | (simp; done) | (simp; omega)) _)))) (first
        | (go_at_call 31; refine (O.out x _ (Int.le_refl _) x2).mono ?_; rintro r w4 ⟨rfl, hb4⟩; obtain ⟨hc4, hf4⟩ := bcell hb4; have B4 : Below (w.heap.size + 2) w3 w4 := Below.trans (by repeat (first | with_reducible exact Below.refl _ _ | with_reducible refine Below.setCell ?_ (by first | omega | (simp; done) | (simp; omega)) _ | with_reducible refine bDrewN ?_ _ | with_reducible refine Below.drew ?_ | with_reducible refine Below.alloc ?_ (by first | omega | (simp; done) | (simp; omega)) _)) (hb4.mono (by first | omega | (simp; done) | (simp; omega))); have z4 := hb4.size; simp at z4; have g0 : w4.cell? ⟨w.heap.size + 2, 0, none⟩ = some (.int .i64 0) := (by rw [hb4.cell (by first | omega | (simp; done) | (simp; omega))]; simp [go_sem, s0]); have g1 : w4.cell? ⟨w.heap.size + 2, 1, none⟩ = some (.int .i64 0) := (by rw [hb4.cell (by first | omega | (simp; done) | (simp; omega))]; simp [go_sem, s1]); have g2 : w4.cell? ⟨w.heap.size + 2, 2, none⟩ = some (.int .i64 0) := (by rw [hb4.cell (by first | omega | (simp; done) | (simp; omega))]; simp [go_sem, s2]); have g3 : w4.cell? ⟨w.heap.size + 2, 3, none⟩ = some (.int .i64 0) := (by rw [hb4.cell (by first | omega | (simp; done) | (simp; omega))]; simp [go_sem, s3]); have gf : ∀ o, w4.frozen? ⟨w.heap.size + 2, o, none⟩ = false := (fun o => by rw [hb4.frozen (by first | omega | (simp; done) | (simp; omega))]; simp [go_sem, fz]); have z5 : w.heap.size + 2 < w4.heap.size := (by omega)))
      all_goals
        go_wp2
        have B5 : Below w.heap.size w w4 := BW.trans (B4.mono (by omega))
        have k0 := wrap_i64s (x := a - x) (by omega) (by omega)
        have k1 := wrap_i64s (x := b - x) (by omega) (by omega)
        have k2 := wrap_i64s (x := c + x) (by omega) (by omega)
        have k3 := wrap_i64s (x := d + x) (by omega) (by omega)
        refine bodyPost_ret (v := .tuple #[.agg #[.int .i64 (a - x), .int .i64 (b - x), .int .i64 (c + x), .int .i64 (d + x)], .int .i64 (overV a b c d n e x), .bool true]) (by simp [results, Try.results9, go_sem, g0, g1, g2, g3, k0, k1, k2, k3]) rfl ⟨rfl, ?_⟩
        exact (by repeat (first | with_reducible exact Below.refl _ _ | with_reducible exact B5 | with_reducible refine Below.setCell ?_ (by first | omega | (simp; done) | (simp; omega)) _ | with_reducible refine bDrewN ?_ _ | with_reducible refine Below.drew ?_ | with_reducible refine Below.alloc ?_ (by first | omega | (simp; done) | (simp; omega)) _))
set_option maxHeartbeats 1000000 in
theorem specBal_no0 (a b c d n e : Int) (w : World)  (hz : a < 0 ∨ 10000 < a)
    (I : Hid (∀ (x lo hi : Int) (w : World), lo ≤ x → x ≤ hi → Calls Try.prog 29 #[.int .i64 x, .int .i64 lo, .int .i64 hi] w fun r w' => r = .returned (.bool true) ∧ w' = w))
    (J : Hid (∀ (x lo hi : Int) (w : World), x < lo ∨ hi < x → Calls Try.prog 29 #[.int .i64 x, .int .i64 lo, .int .i64 hi] w fun r w' => r = .returned (.bool false) ∧ w' = w)) :
    Calls Try.prog 9 #[.agg #[.int .i64 a, .int .i64 b, .int .i64 c, .int .i64 d], .agg #[.int .i64 n, .int .i64 e]] w fun r w' => r = .returned (.tuple #[.agg #[.int .i64 0, .int .i64 0, .int .i64 0, .int .i64 0], .int .i64 0, .bool false]) ∧ Below w.heap.size w w' := by
  have HZ : Hid _ := hz
  clear hz
  go_enter Try.func9, Try.ntmps9
  go_wp2_with (first
    | (go_at_call 29; refine (I.out _ _ _ _ ?_ ?_).mono ?_; omega; omega; rintro r w1 ⟨rfl, rfl⟩))
  refine (J.out _ _ _ _ HZ.out).mono ?_
  rintro r w1 ⟨rfl, rfl⟩
  go_wp2
  refine bodyPost_ret (v := .tuple #[.agg #[.int .i64 0, .int .i64 0, .int .i64 0, .int .i64 0], .int .i64 0, .bool false]) (by simp [results, Try.results9, go_sem]) rfl ⟨rfl, ?_⟩
  exact (by repeat (first | with_reducible exact Below.refl _ _ | with_reducible refine Below.setCell ?_ (by first | omega | (simp; done) | (simp; omega)) _ | with_reducible refine bDrewN ?_ _ | with_reducible refine Below.drew ?_ | with_reducible refine Below.alloc ?_ (by first | omega | (simp; done) | (simp; omega)) _))
set_option maxHeartbeats 1000000 in
theorem specBal_no1 (a b c d n e : Int) (w : World) (ha : 0 ≤ a) (ha' : a ≤ 10000) (hz : b < 0 ∨ 10000 < b)
    (I : Hid (∀ (x lo hi : Int) (w : World), lo ≤ x → x ≤ hi → Calls Try.prog 29 #[.int .i64 x, .int .i64 lo, .int .i64 hi] w fun r w' => r = .returned (.bool true) ∧ w' = w))
    (J : Hid (∀ (x lo hi : Int) (w : World), x < lo ∨ hi < x → Calls Try.prog 29 #[.int .i64 x, .int .i64 lo, .int .i64 hi] w fun r w' => r = .returned (.bool false) ∧ w' = w)) :
    Calls Try.prog 9 #[.agg #[.int .i64 a, .int .i64 b, .int .i64 c, .int .i64 d], .agg #[.int .i64 n, .int .i64 e]] w fun r w' => r = .returned (.tuple #[.agg #[.int .i64 0, .int .i64 0, .int .i64 0, .int .i64 0], .int .i64 0, .bool false]) ∧ Below w.heap.size w w' := by
  have HZ : Hid _ := hz
  clear hz
  go_enter Try.func9, Try.ntmps9
  go_wp2_with (first
    | (go_at_call 29; refine (I.out _ _ _ _ ?_ ?_).mono ?_; omega; omega; rintro r w1 ⟨rfl, rfl⟩))
  refine (J.out _ _ _ _ HZ.out).mono ?_
  rintro r w1 ⟨rfl, rfl⟩
  go_wp2
  refine bodyPost_ret (v := .tuple #[.agg #[.int .i64 0, .int .i64 0, .int .i64 0, .int .i64 0], .int .i64 0, .bool false]) (by simp [results, Try.results9, go_sem]) rfl ⟨rfl, ?_⟩
  exact (by repeat (first | with_reducible exact Below.refl _ _ | with_reducible refine Below.setCell ?_ (by first | omega | (simp; done) | (simp; omega)) _ | with_reducible refine bDrewN ?_ _ | with_reducible refine Below.drew ?_ | with_reducible refine Below.alloc ?_ (by first | omega | (simp; done) | (simp; omega)) _))
set_option maxHeartbeats 1000000 in
theorem specBal_no2 (a b c d n e : Int) (w : World) (ha : 0 ≤ a) (ha' : a ≤ 10000) (hb : 0 ≤ b) (hb' : b ≤ 10000) (hz : c < 0 ∨ 10000 < c)
    (I : Hid (∀ (x lo hi : Int) (w : World), lo ≤ x → x ≤ hi → Calls Try.prog 29 #[.int .i64 x, .int .i64 lo, .int .i64 hi] w fun r w' => r = .returned (.bool true) ∧ w' = w))
    (J : Hid (∀ (x lo hi : Int) (w : World), x < lo ∨ hi < x → Calls Try.prog 29 #[.int .i64 x, .int .i64 lo, .int .i64 hi] w fun r w' => r = .returned (.bool false) ∧ w' = w)) :
    Calls Try.prog 9 #[.agg #[.int .i64 a, .int .i64 b, .int .i64 c, .int .i64 d], .agg #[.int .i64 n, .int .i64 e]] w fun r w' => r = .returned (.tuple #[.agg #[.int .i64 0, .int .i64 0, .int .i64 0, .int .i64 0], .int .i64 0, .bool false]) ∧ Below w.heap.size w w' := by
  have HZ : Hid _ := hz
  clear hz
  go_enter Try.func9, Try.ntmps9
  go_wp2_with (first
    | (go_at_call 29; refine (I.out _ _ _ _ ?_ ?_).mono ?_; omega; omega; rintro r w1 ⟨rfl, rfl⟩))
  refine (J.out _ _ _ _ HZ.out).mono ?_
  rintro r w1 ⟨rfl, rfl⟩
  go_wp2
  refine bodyPost_ret (v := .tuple #[.agg #[.int .i64 0, .int .i64 0, .int .i64 0, .int .i64 0], .int .i64 0, .bool false]) (by simp [results, Try.results9, go_sem]) rfl ⟨rfl, ?_⟩
  exact (by repeat (first | with_reducible exact Below.refl _ _ | with_reducible refine Below.setCell ?_ (by first | omega | (simp; done) | (simp; omega)) _ | with_reducible refine bDrewN ?_ _ | with_reducible refine Below.drew ?_ | with_reducible refine Below.alloc ?_ (by first | omega | (simp; done) | (simp; omega)) _))
set_option maxHeartbeats 1000000 in
theorem specBal_no3 (a b c d n e : Int) (w : World) (ha : 0 ≤ a) (ha' : a ≤ 10000) (hb : 0 ≤ b) (hb' : b ≤ 10000) (hc : 0 ≤ c) (hc' : c ≤ 10000) (hz : d < 0 ∨ 10000 < d)
    (I : Hid (∀ (x lo hi : Int) (w : World), lo ≤ x → x ≤ hi → Calls Try.prog 29 #[.int .i64 x, .int .i64 lo, .int .i64 hi] w fun r w' => r = .returned (.bool true) ∧ w' = w))
    (J : Hid (∀ (x lo hi : Int) (w : World), x < lo ∨ hi < x → Calls Try.prog 29 #[.int .i64 x, .int .i64 lo, .int .i64 hi] w fun r w' => r = .returned (.bool false) ∧ w' = w)) :
    Calls Try.prog 9 #[.agg #[.int .i64 a, .int .i64 b, .int .i64 c, .int .i64 d], .agg #[.int .i64 n, .int .i64 e]] w fun r w' => r = .returned (.tuple #[.agg #[.int .i64 0, .int .i64 0, .int .i64 0, .int .i64 0], .int .i64 0, .bool false]) ∧ Below w.heap.size w w' := by
  have HZ : Hid _ := hz
  clear hz
  go_enter Try.func9, Try.ntmps9
  go_wp2_with (first
    | (go_at_call 29; refine (I.out _ _ _ _ ?_ ?_).mono ?_; omega; omega; rintro r w1 ⟨rfl, rfl⟩))
  refine (J.out _ _ _ _ HZ.out).mono ?_
  rintro r w1 ⟨rfl, rfl⟩
  go_wp2
  refine bodyPost_ret (v := .tuple #[.agg #[.int .i64 0, .int .i64 0, .int .i64 0, .int .i64 0], .int .i64 0, .bool false]) (by simp [results, Try.results9, go_sem]) rfl ⟨rfl, ?_⟩
  exact (by repeat (first | with_reducible exact Below.refl _ _ | with_reducible refine Below.setCell ?_ (by first | omega | (simp; done) | (simp; omega)) _ | with_reducible refine bDrewN ?_ _ | with_reducible refine Below.drew ?_ | with_reducible refine Below.alloc ?_ (by first | omega | (simp; done) | (simp; omega)) _))
set_option maxHeartbeats 1000000 in
theorem specBal_no4 (a b c d n e : Int) (w : World) (ha : 0 ≤ a) (ha' : a ≤ 10000) (hb : 0 ≤ b) (hb' : b ≤ 10000) (hc : 0 ≤ c) (hc' : c ≤ 10000) (hd : 0 ≤ d) (hd' : d ≤ 10000) (F : Hid (∀ w, Calls Try.prog 30 #[.agg #[.int .i64 n, .int .i64 e]] w fun r w' => r = .returned (.bool false) ∧ Below w.heap.size w w'))
    (I : Hid (∀ (x lo hi : Int) (w : World), lo ≤ x → x ≤ hi → Calls Try.prog 29 #[.int .i64 x, .int .i64 lo, .int .i64 hi] w fun r w' => r = .returned (.bool true) ∧ w' = w))
    (J : Hid (∀ (x lo hi : Int) (w : World), x < lo ∨ hi < x → Calls Try.prog 29 #[.int .i64 x, .int .i64 lo, .int .i64 hi] w fun r w' => r = .returned (.bool false) ∧ w' = w)) :
    Calls Try.prog 9 #[.agg #[.int .i64 a, .int .i64 b, .int .i64 c, .int .i64 d], .agg #[.int .i64 n, .int .i64 e]] w fun r w' => r = .returned (.tuple #[.agg #[.int .i64 0, .int .i64 0, .int .i64 0, .int .i64 0], .int .i64 0, .bool false]) ∧ Below w.heap.size w w' := by
  go_enter Try.func9, Try.ntmps9
  go_wp2_with (first
    | (go_at_call 29; refine (I.out _ _ _ _ ?_ ?_).mono ?_; omega; omega; rintro r w1 ⟨rfl, rfl⟩))
  refine (F.out _).mono ?_
  rintro r w2 ⟨rfl, hf⟩
  have B2 : Below w.heap.size w w2 := Below.trans (by repeat (first | with_reducible exact Below.refl _ _ | with_reducible refine Below.setCell ?_ (by first | omega | (simp; done) | (simp; omega)) _ | with_reducible refine bDrewN ?_ _ | with_reducible refine Below.drew ?_ | with_reducible refine Below.alloc ?_ (by first | omega | (simp; done) | (simp; omega)) _)) (hf.mono (by first | omega | (simp; done) | (simp; omega)))
  have z2 : w.heap.size + 2 < w2.heap.size := by have := hf.size; simp at this; omega
  have z2a : w.heap.size + 1 < w2.heap.size := by omega
  have r0 : w2.cell? ⟨w.heap.size + 1, 0, none⟩ = some (.int .i64 n) := by rw [hf.cell (by first | omega | (simp; done) | (simp; omega))]; simp [go_sem]
  have r1 : w2.cell? ⟨w.heap.size + 1, 1, none⟩ = some (.int .i64 e) := by rw [hf.cell (by first | omega | (simp; done) | (simp; omega))]; simp [go_sem]
  have s0 : w2.cell? ⟨w.heap.size + 2, 0, none⟩ = some (.int .i64 0) := by rw [hf.cell (by first | omega | (simp; done) | (simp; omega))]; simp [go_sem]
  have s1 : w2.cell? ⟨w.heap.size + 2, 1, none⟩ = some (.int .i64 0) := by rw [hf.cell (by first | omega | (simp; done) | (simp; omega))]; simp [go_sem]
  have s2 : w2.cell? ⟨w.heap.size + 2, 2, none⟩ = some (.int .i64 0) := by rw [hf.cell (by first | omega | (simp; done) | (simp; omega))]; simp [go_sem]
  have s3 : w2.cell? ⟨w.heap.size + 2, 3, none⟩ = some (.int .i64 0) := by rw [hf.cell (by first | omega | (simp; done) | (simp; omega))]; simp [go_sem]
  have fy : ∀ o, w2.frozen? ⟨w.heap.size + 2, o, none⟩ = false := fun o => by rw [hf.frozen (by first | omega | (simp; done) | (simp; omega))]; simp [go_sem]
  clear hf
  go_wp2
  refine bodyPost_ret (v := .tuple #[.agg #[.int .i64 0, .int .i64 0, .int .i64 0, .int .i64 0], .int .i64 0, .bool false]) (by simp [results, Try.results9, go_sem, s0, s1, s2, s3]) rfl ⟨rfl, ?_⟩
  exact (by repeat (first | with_reducible exact Below.refl _ _ | with_reducible exact B2 | with_reducible refine Below.setCell ?_ (by first | omega | (simp; done) | (simp; omega)) _ | with_reducible refine bDrewN ?_ _ | with_reducible refine Below.drew ?_ | with_reducible refine Below.alloc ?_ (by first | omega | (simp; done) | (simp; omega)) _))
set_option maxHeartbeats 1000000 in
theorem specBal_no5 (a b c d n e : Int) (w : World) (ha : 0 ≤ a) (ha' : a ≤ 10000) (hb : 0 ≤ b) (hb' : b ≤ 10000) (hc : 0 ≤ c) (hc' : c ≤ 10000) (hd : 0 ≤ d) (hd' : d ≤ 10000) (F : Hid (∀ w, Calls Try.prog 30 #[.agg #[.int .i64 n, .int .i64 e]] w fun r w' => r = .returned (.bool true) ∧ Below w.heap.size w w')) (hz : n < 1 ∨ 1000 < n)
    (I : Hid (∀ (x lo hi : Int) (w : World), lo ≤ x → x ≤ hi → Calls Try.prog 29 #[.int .i64 x, .int .i64 lo, .int .i64 hi] w fun r w' => r = .returned (.bool true) ∧ w' = w))
    (J : Hid (∀ (x lo hi : Int) (w : World), x < lo ∨ hi < x → Calls Try.prog 29 #[.int .i64 x, .int .i64 lo, .int .i64 hi] w fun r w' => r = .returned (.bool false) ∧ w' = w)) :
    Calls Try.prog 9 #[.agg #[.int .i64 a, .int .i64 b, .int .i64 c, .int .i64 d], .agg #[.int .i64 n, .int .i64 e]] w fun r w' => r = .returned (.tuple #[.agg #[.int .i64 0, .int .i64 0, .int .i64 0, .int .i64 0], .int .i64 0, .bool false]) ∧ Below w.heap.size w w' := by
  have HZ : Hid _ := hz
  clear hz
  go_enter Try.func9, Try.ntmps9
  go_wp2_with (first
    | (go_at_call 29; refine (I.out _ _ _ _ ?_ ?_).mono ?_; omega; omega; rintro r w1 ⟨rfl, rfl⟩))
  refine (F.out _).mono ?_
  rintro r w2 ⟨rfl, hf⟩
  have B2 : Below w.heap.size w w2 := Below.trans (by repeat (first | with_reducible exact Below.refl _ _ | with_reducible refine Below.setCell ?_ (by first | omega | (simp; done) | (simp; omega)) _ | with_reducible refine bDrewN ?_ _ | with_reducible refine Below.drew ?_ | with_reducible refine Below.alloc ?_ (by first | omega | (simp; done) | (simp; omega)) _)) (hf.mono (by first | omega | (simp; done) | (simp; omega)))
  have z2 : w.heap.size + 2 < w2.heap.size := by have := hf.size; simp at this; omega
  have z2a : w.heap.size + 1 < w2.heap.size := by omega
  have r0 : w2.cell? ⟨w.heap.size + 1, 0, none⟩ = some (.int .i64 n) := by rw [hf.cell (by first | omega | (simp; done) | (simp; omega))]; simp [go_sem]
  have r1 : w2.cell? ⟨w.heap.size + 1, 1, none⟩ = some (.int .i64 e) := by rw [hf.cell (by first | omega | (simp; done) | (simp; omega))]; simp [go_sem]
  have s0 : w2.cell? ⟨w.heap.size + 2, 0, none⟩ = some (.int .i64 0) := by rw [hf.cell (by first | omega | (simp; done) | (simp; omega))]; simp [go_sem]
  have s1 : w2.cell? ⟨w.heap.size + 2, 1, none⟩ = some (.int .i64 0) := by rw [hf.cell (by first | omega | (simp; done) | (simp; omega))]; simp [go_sem]
  have s2 : w2.cell? ⟨w.heap.size + 2, 2, none⟩ = some (.int .i64 0) := by rw [hf.cell (by first | omega | (simp; done) | (simp; omega))]; simp [go_sem]
  have s3 : w2.cell? ⟨w.heap.size + 2, 3, none⟩ = some (.int .i64 0) := by rw [hf.cell (by first | omega | (simp; done) | (simp; omega))]; simp [go_sem]
  have fy : ∀ o, w2.frozen? ⟨w.heap.size + 2, o, none⟩ = false := fun o => by rw [hf.frozen (by first | omega | (simp; done) | (simp; omega))]; simp [go_sem]
  clear hf
  go_wp2_with (first
    | (go_at_call 29; refine (I.out _ _ _ _ ?_ ?_).mono ?_; omega; omega; rintro r w1 ⟨rfl, rfl⟩))
  refine (J.out _ _ _ _ HZ.out).mono ?_
  rintro r w1 ⟨rfl, rfl⟩
  go_wp2
  refine bodyPost_ret (v := .tuple #[.agg #[.int .i64 0, .int .i64 0, .int .i64 0, .int .i64 0], .int .i64 0, .bool false]) (by simp [results, Try.results9, go_sem, s0, s1, s2, s3]) rfl ⟨rfl, ?_⟩
  exact (by repeat (first | with_reducible exact Below.refl _ _ | with_reducible exact B2 | with_reducible refine Below.setCell ?_ (by first | omega | (simp; done) | (simp; omega)) _ | with_reducible refine bDrewN ?_ _ | with_reducible refine Below.drew ?_ | with_reducible refine Below.alloc ?_ (by first | omega | (simp; done) | (simp; omega)) _))
set_option maxHeartbeats 1000000 in
theorem specBal_no6 (a b c d n e : Int) (w : World) (ha : 0 ≤ a) (ha' : a ≤ 10000) (hb : 0 ≤ b) (hb' : b ≤ 10000) (hc : 0 ≤ c) (hc' : c ≤ 10000) (hd : 0 ≤ d) (hd' : d ≤ 10000) (F : Hid (∀ w, Calls Try.prog 30 #[.agg #[.int .i64 n, .int .i64 e]] w fun r w' => r = .returned (.bool true) ∧ Below w.heap.size w w')) (hn : 1 ≤ n) (hn' : n ≤ 1000) (hz : e < 1 ∨ 1000 < e)
    (I : Hid (∀ (x lo hi : Int) (w : World), lo ≤ x → x ≤ hi → Calls Try.prog 29 #[.int .i64 x, .int .i64 lo, .int .i64 hi] w fun r w' => r = .returned (.bool true) ∧ w' = w))
    (J : Hid (∀ (x lo hi : Int) (w : World), x < lo ∨ hi < x → Calls Try.prog 29 #[.int .i64 x, .int .i64 lo, .int .i64 hi] w fun r w' => r = .returned (.bool false) ∧ w' = w)) :
    Calls Try.prog 9 #[.agg #[.int .i64 a, .int .i64 b, .int .i64 c, .int .i64 d], .agg #[.int .i64 n, .int .i64 e]] w fun r w' => r = .returned (.tuple #[.agg #[.int .i64 0, .int .i64 0, .int .i64 0, .int .i64 0], .int .i64 0, .bool false]) ∧ Below w.heap.size w w' := by
  have HZ : Hid _ := hz
  clear hz
  go_enter Try.func9, Try.ntmps9
  go_wp2_with (first
    | (go_at_call 29; refine (I.out _ _ _ _ ?_ ?_).mono ?_; omega; omega; rintro r w1 ⟨rfl, rfl⟩))
  refine (F.out _).mono ?_
  rintro r w2 ⟨rfl, hf⟩
  have B2 : Below w.heap.size w w2 := Below.trans (by repeat (first | with_reducible exact Below.refl _ _ | with_reducible refine Below.setCell ?_ (by first | omega | (simp; done) | (simp; omega)) _ | with_reducible refine bDrewN ?_ _ | with_reducible refine Below.drew ?_ | with_reducible refine Below.alloc ?_ (by first | omega | (simp; done) | (simp; omega)) _)) (hf.mono (by first | omega | (simp; done) | (simp; omega)))
  have z2 : w.heap.size + 2 < w2.heap.size := by have := hf.size; simp at this; omega
  have z2a : w.heap.size + 1 < w2.heap.size := by omega
  have r0 : w2.cell? ⟨w.heap.size + 1, 0, none⟩ = some (.int .i64 n) := by rw [hf.cell (by first | omega | (simp; done) | (simp; omega))]; simp [go_sem]
  have r1 : w2.cell? ⟨w.heap.size + 1, 1, none⟩ = some (.int .i64 e) := by rw [hf.cell (by first | omega | (simp; done) | (simp; omega))]; simp [go_sem]
  have s0 : w2.cell? ⟨w.heap.size + 2, 0, none⟩ = some (.int .i64 0) := by rw [hf.cell (by first | omega | (simp; done) | (simp; omega))]; simp [go_sem]
  have s1 : w2.cell? ⟨w.heap.size + 2, 1, none⟩ = some (.int .i64 0) := by rw [hf.cell (by first | omega | (simp; done) | (simp; omega))]; simp [go_sem]
  have s2 : w2.cell? ⟨w.heap.size + 2, 2, none⟩ = some (.int .i64 0) := by rw [hf.cell (by first | omega | (simp; done) | (simp; omega))]; simp [go_sem]
  have s3 : w2.cell? ⟨w.heap.size + 2, 3, none⟩ = some (.int .i64 0) := by rw [hf.cell (by first | omega | (simp; done) | (simp; omega))]; simp [go_sem]
  have fy : ∀ o, w2.frozen? ⟨w.heap.size + 2, o, none⟩ = false := fun o => by rw [hf.frozen (by first | omega | (simp; done) | (simp; omega))]; simp [go_sem]
  clear hf
  go_wp2_with (first
    | (go_at_call 29; refine (I.out _ _ _ _ ?_ ?_).mono ?_; omega; omega; rintro r w1 ⟨rfl, rfl⟩))
  refine (J.out _ _ _ _ HZ.out).mono ?_
  rintro r w1 ⟨rfl, rfl⟩
  go_wp2
  refine bodyPost_ret (v := .tuple #[.agg #[.int .i64 0, .int .i64 0, .int .i64 0, .int .i64 0], .int .i64 0, .bool false]) (by simp [results, Try.results9, go_sem, s0, s1, s2, s3]) rfl ⟨rfl, ?_⟩
  exact (by repeat (first | with_reducible exact Below.refl _ _ | with_reducible exact B2 | with_reducible refine Below.setCell ?_ (by first | omega | (simp; done) | (simp; omega)) _ | with_reducible refine bDrewN ?_ _ | with_reducible refine Below.drew ?_ | with_reducible refine Below.alloc ?_ (by first | omega | (simp; done) | (simp; omega)) _))

/-- What a balance tells. -/
def balV (a b c d n e : Int) (v : Value) : Prop := (balB a b c d n e = false ∧ v = .tuple #[.agg #[.int .i64 0, .int .i64 0, .int .i64 0, .int .i64 0], .int .i64 0, .bool false]) ∨ (balB a b c d n e = true ∧ ∃ X, Bal a b c d n e X ∧ v = .tuple #[.agg #[.int .i64 (a - X), .int .i64 (b - X), .int .i64 (c + X), .int .i64 (d + X)], .int .i64 (overV a b c d n e X), .bool true])
theorem Bal.one {a b c d n e X Y : Int} (h : Bal a b c d n e X) (k : Bal a b c d n e Y) : X = Y := by
  have h1 := h.low k.2.1 k.2.2.1
  have h2 := k.low h.2.1 h.2.2.1
  omega
theorem balV_one {a b c d n e : Int} {u v : Value} (h : balV a b c d n e u) (k : balV a b c d n e v) : u = v := by
  rcases h with ⟨h1, rfl⟩ | ⟨h1, X, hX, rfl⟩ <;> rcases k with ⟨k1, rfl⟩ | ⟨k1, Y, kY, rfl⟩
  · rfl
  · rw [h1] at k1; cases k1
  · rw [h1] at k1; cases k1
  · rw [hX.one kY]
theorem bal_not {a b c d n e : Int} (h : ¬ (inG a ∧ inG b ∧ inG c ∧ inG d ∧ inK n ∧ inK e) ∨ rightB n e = false) : balB a b c d n e = false := by
  unfold balB
  rcases h with h | h
  · rw [decide_eq_false h]; rfl
  · rw [h, Bool.and_false]
theorem specBalance_any (a b c d n e : Int) (h1 : -9223372036854775808 ≤ n) (h2 : n ≤ 9223372036854775807) (h3 : -9223372036854775808 ≤ e) (h4 : e ≤ 9223372036854775807) :
    ∃ v, balV a b c d n e v ∧ ∀ w, Calls Try.prog 9 #[.agg #[.int .i64 a, .int .i64 b, .int .i64 c, .int .i64 d], .agg #[.int .i64 n, .int .i64 e]] w fun r w' => r = .returned v ∧ Below w.heap.size w w' := by
  have I : Hid (∀ (x lo hi : Int) (w : World), lo ≤ x → x ≤ hi → Calls Try.prog 29 #[.int .i64 x, .int .i64 lo, .int .i64 hi] w fun r w' => r = .returned (.bool true) ∧ w' = w) := fun x lo hi w p q => l1In_yes x lo hi w p q
  have J : Hid (∀ (x lo hi : Int) (w : World), x < lo ∨ hi < x → Calls Try.prog 29 #[.int .i64 x, .int .i64 lo, .int .i64 hi] w fun r w' => r = .returned (.bool false) ∧ w' = w) := fun x lo hi w p => l1In_no x lo hi w p
  have F := fun w => l1FracOk_any n e w h1 h2 h3 h4
  by_cases ca : inG a
  · by_cases cb : inG b
    · by_cases cc : inG c
      · by_cases cd : inG d
        · cases cr : rightB n e
          · rw [cr] at F
            exact ⟨_, .inl ⟨bal_not (.inr cr), rfl⟩, fun w => specBal_no4 a b c d n e w ca.1 ca.2 cb.1 cb.2 cc.1 cc.2 cd.1 cd.2 F I J⟩
          · rw [cr] at F
            by_cases cn : inK n
            · by_cases ce : inK e
              · obtain ⟨X, hX⟩ := bal_exists (e := e) ca cb cc cd cn
                have hB : balB a b c d n e = true := by unfold balB; rw [decide_eq_true ⟨ca, cb, cc, cd, cn, ce⟩, cr]; rfl
                have x1 := hX.1
                have x2 := hX.2.1
                refine ⟨_, .inr ⟨hB, X, hX, rfl⟩, fun w => specBal_yes a b c d n e X (min a b) w ca.1 ca.2 cb.1 cb.2 cc.1 cc.2 cd.1 cd.2 cn.1 cn.2 ce.1 ce.2 F I (fun x w y1 y2 => ?_) (by split <;> omega) (by omega) x2 (by omega) hX rfl⟩
                obtain ⟨p1, p2, p3, p4, p5, p6, p7, p8⟩ := over_prods (x := x) ca cb cc cd cn ce (by omega) y2
                exact l2Over_any a b c d n e x w ca.1 ca.2 cb.1 cb.2 cc.1 cc.2 cd.1 cd.2 (by omega) (by omega) p1 p2 p3 p4 p5 p6 p7 p8
              · exact ⟨_, .inl ⟨bal_not (.inl fun g => ce g.2.2.2.2.2), rfl⟩, fun w => specBal_no6 a b c d n e w ca.1 ca.2 cb.1 cb.2 cc.1 cc.2 cd.1 cd.2 F cn.1 cn.2 (by unfold inK at ce; omega) I J⟩
            · exact ⟨_, .inl ⟨bal_not (.inl fun g => cn g.2.2.2.2.1), rfl⟩, fun w => specBal_no5 a b c d n e w ca.1 ca.2 cb.1 cb.2 cc.1 cc.2 cd.1 cd.2 F (by unfold inK at cn; omega) I J⟩
        · exact ⟨_, .inl ⟨bal_not (.inl fun g => cd g.2.2.2.1), rfl⟩, fun w => specBal_no3 a b c d n e w ca.1 ca.2 cb.1 cb.2 cc.1 cc.2 (by unfold inG at cd; omega) I J⟩
      · exact ⟨_, .inl ⟨bal_not (.inl fun g => cc g.2.2.1), rfl⟩, fun w => specBal_no2 a b c d n e w ca.1 ca.2 cb.1 cb.2 (by unfold inG at cc; omega) I J⟩
    · exact ⟨_, .inl ⟨bal_not (.inl fun g => cb g.2.1), rfl⟩, fun w => specBal_no1 a b c d n e w ca.1 ca.2 (by unfold inG at cb; omega) I J⟩
  · exact ⟨_, .inl ⟨bal_not (.inl fun g => ca g.1), rfl⟩, fun w => specBal_no0 a b c d n e w (by unfold inG at ca; omega) I J⟩
end Go.Proofs.Ytnimndpphphcnaa
