/-
What is proved: how many loads a battery bears, as the specification tells it.
-/
import Derived.Test.YtdoekgnmbdekgaaLas
import Derived.Test.YtdoekgnmbdekgaaBatS
import Derived.Deep.RegionHeld3
import Derived.Deep.DeepCutAuto
namespace Go.Proofs.Ytdoekgnmbdekgaa
set_option maxRecDepth 40000
open Go.RowKit
set_option linter.unusedVariables false
set_option linter.unusedSimpArgs false

theorem keepBa5 {W W' : World} {p : Nat} {q : Addr} {a0 a1 a2 a3 a4 : Value} (h0 : W.cell? ⟨p, 0, none⟩ = some a0) (h1 : W.cell? ⟨p, 1, none⟩ = some a1) (h2 : W.cell? ⟨p, 2, none⟩ = some a2) (h3 : W.cell? ⟨p, 3, none⟩ = some a3) (h4 : W.cell? q = some a4) (zp : p < W.heap.size) (zq : q.block < W.heap.size) (hb : Below W.heap.size W W') : W'.cell? ⟨p, 0, none⟩ = some a0 ∧ W'.cell? ⟨p, 1, none⟩ = some a1 ∧ W'.cell? ⟨p, 2, none⟩ = some a2 ∧ W'.cell? ⟨p, 3, none⟩ = some a3 ∧ W'.cell? q = some a4 :=
  ⟨(hb.cell (p := ⟨p, 0, none⟩) zp).trans h0, (hb.cell (p := ⟨p, 1, none⟩) zp).trans h1, (hb.cell (p := ⟨p, 2, none⟩) zp).trans h2, (hb.cell (p := ⟨p, 3, none⟩) zp).trans h3, (hb.cell zq).trans h4⟩
set_option maxRecDepth 20000 in
set_option maxHeartbeats 8000000 in
theorem specLasts_go (C M G F : Int) (s : Option Addr) (n c r : Nat) (V : Nat → Int) (w : World) (hn : (n : Int) ≤ 1000) (HR : Hid (RowI w s n V)) (HL : Hid (LastV (bearsB (C, M, G, F) V) n r)) (hb : batB C M G F = true)
    (T : Hid (∀ y0 y1 y2 y3 l w, Calls Try.prog 14 #[.agg #[.int .i64 y0, .int .i64 y1, .int .i64 y2, .int .i64 y3], .int .i64 l, .int .i64 0] w fun e w' => e = .returned (.tuple #[.agg #[.int .i64 (nextB (y0, y1, y2, y3) l).1, .int .i64 (nextB (y0, y1, y2, y3) l).2.1, .int .i64 (nextB (y0, y1, y2, y3) l).2.2.1, .int .i64 (nextB (y0, y1, y2, y3) l).2.2.2], .int .i64 (lkB (y0, y1, y2, y3) l), .bool (stB (y0, y1, y2, y3) l)]) ∧ Below w.heap.size w w')) :
    Calls Try.prog 18 #[.agg #[.int .i64 C, .int .i64 M, .int .i64 G, .int .i64 F], .slice s n c] w fun e w' => e = .returned (.int .i64 (r : Int)) ∧ Below w.heap.size w w' := by
  go_enter Try.func18, Try.ntmps18
  go_wp2_with fail
  refine (l11Battery_any _ _ _ _ _).mono ?_
  rintro e w1 ⟨rfl, hr⟩
  rw [hb]
  have z1 : w.heap.size < w1.heap.size := by have := hr.size; simp at this; omega
  have q0 : w1.cell? ⟨w.heap.size, 0, none⟩ = some (.int .i64 C) := by rw [hr.cell (by first | omega | (simp; done) | (simp; omega))]; first | (simp; done) | (simp [go_sem]; done)
  have q1 : w1.cell? ⟨w.heap.size, 1, none⟩ = some (.int .i64 M) := by rw [hr.cell (by first | omega | (simp; done) | (simp; omega))]; first | (simp; done) | (simp [go_sem]; done)
  have q2 : w1.cell? ⟨w.heap.size, 2, none⟩ = some (.int .i64 G) := by rw [hr.cell (by first | omega | (simp; done) | (simp; omega))]; first | (simp; done) | (simp [go_sem]; done)
  have q3 : w1.cell? ⟨w.heap.size, 3, none⟩ = some (.int .i64 F) := by rw [hr.cell (by first | omega | (simp; done) | (simp; omega))]; first | (simp; done) | (simp [go_sem]; done)
  have fz : ∀ o, w1.frozen? ⟨w.heap.size, o, none⟩ = false := fun o => by rw [hr.frozen (by first | omega | (simp; done) | (simp; omega))]; simp [go_sem]
  have B1 : Below w.heap.size w w1 := Below.trans (by repeat (first | with_reducible exact Below.refl _ _ | with_reducible refine Below.setCell ?_ (by first | omega | (simp; done) | (simp; omega)) _ | with_reducible refine bDrewN ?_ _ | with_reducible refine Below.drew ?_ | with_reducible refine Below.alloc ?_ (by first | omega | (simp; done) | (simp; omega)) _)) (hr.mono (by first | omega | (simp; done) | (simp; omega)))
  clear hr
  have D1 : Hid (LasAt w.heap.size w1 w1 (C, M, G, F)) := ⟨Beside.of (Below.refl _ _), z1, fz, q0, q1, q2, q3⟩
  have ROW : Hid (∀ wr, Beside w.heap.size w1 wr → RowI wr s n V) := fun wr hs j hj => by
    obtain ⟨b, o, e, hl, hc⟩ := HR.out j hj
    have hl1 : b < w1.heap.size := Nat.lt_of_lt_of_le hl B1.size
    exact ⟨b, o, e, Nat.lt_of_lt_of_le hl1 hs.2.2.2.1, (hs.cell (p := ⟨b, o + j, none⟩) hl1 (by show b ≠ w.heap.size; omega)).trans ((B1.cell (p := ⟨b, o + j, none⟩) hl).trans hc)⟩
  clear q0 q1 q2 q3 fz HR
  go_wp2_with fail
  go_loopw [5] (fun i wr => ∃ k : Nat, ∃ y : B4, k ≤ n ∧ i = .int .i64 k ∧ LasAt w.heap.size w1 wr y ∧ y = runB (C, M, G, F) V k ∧ ∀ j, j < k → bearsB (C, M, G, F) V j = true) (fun i _ => n - (intOf i).toNat)
  case atStart => exact ⟨0, (C, M, G, F), Nat.zero_le _, rfl, D1.out, rfl, fun j hj => by omega⟩
  case round =>
    obtain ⟨k, ⟨y0, y1, y2, y3⟩, hk, rfl, hA, hy, hok⟩ := hrel
    have HY : Hid ((y0, y1, y2, y3) = runB (C, M, G, F) V k) := hy
    have HO : Hid (∀ j, j < k → bearsB (C, M, G, F) V j = true) := hok
    have HA : Hid (LasAt w.heap.size w1 wr (y0, y1, y2, y3)) := hA
    clear hy hok
    obtain ⟨hS, hD⟩ := hA
    simp only at hD
    obtain ⟨zp, zf, c0, c1, c2, c3⟩ := hD
    by_cases h1 : k < n
    · obtain ⟨g, o2, rfl, hg, a0⟩ := ROW.out wr hS k h1
      have k1 : (k : Int) < (n : Int) := by omega
      have HN : Hid (k < n) := h1
      obtain ⟨u0, u1, u2, u3, hu⟩ : ∃ u0 u1 u2 u3, nextB (y0, y1, y2, y3) (V k) = (u0, u1, u2, u3) := ⟨_, _, _, _, rfl⟩
      have T1 := fun w => T.out y0 y1 y2 y3 (V k) w
      rw [hu] at T1
      simp only at T1
      have HU : Hid _ := hu
      obtain ⟨ov, ho⟩ : ∃ ov, stB (y0, y1, y2, y3) (V k) = ov := ⟨_, rfl⟩
      obtain ⟨lk, hl⟩ : ∃ lk, lkB (y0, y1, y2, y3) (V k) = lk := ⟨_, rfl⟩
      rw [ho, hl] at T1
      have T2 : Hid _ := T1
      have hv : bearsB (C, M, G, F) V k = (ov && decide (lk ≤ 0)) := by unfold bearsB; rw [← HY.out, ho, hl]
      have HV : Hid _ := hv
      clear hv T1 hu ho hl hS
      go_wp2_with fail
      go_cut [6, 7, 8] (fun s t v wx => ∃ p : Nat, s = .pointer (some ⟨p, 0, none⟩) ∧ t = .int .i64 lk ∧ v = .bool ov ∧ wr.heap.size ≤ p ∧ p < wx.heap.size ∧ wx.cell? ⟨p, 0, none⟩ = some (.int .i64 u0) ∧ wx.cell? ⟨p, 1, none⟩ = some (.int .i64 u1) ∧ wx.cell? ⟨p, 2, none⟩ = some (.int .i64 u2) ∧ wx.cell? ⟨p, 3, none⟩ = some (.int .i64 u3) ∧ Below wr.heap.size wr wx)
      case first =>
        go_region_held3 (fun w' => w'.cell? ⟨w.heap.size, 0, none⟩ = some (.int .i64 y0) ∧ w'.cell? ⟨w.heap.size, 1, none⟩ = some (.int .i64 y1) ∧ w'.cell? ⟨w.heap.size, 2, none⟩ = some (.int .i64 y2) ∧ w'.cell? ⟨w.heap.size, 3, none⟩ = some (.int .i64 y3) ∧ w'.cell? ⟨g, o2 + k, none⟩ = some (.int .i64 (V k))) (first | (refine keepBa5 c0 c1 c2 c3 a0 zp hg ?_; exact (by repeat (first | with_reducible exact Below.refl _ _ | with_reducible exact B3 | with_reducible refine Below.setCell ?_ (by first | omega | (simp; done) | (simp; omega)) _ | with_reducible refine bDrewN ?_ _ | with_reducible refine Below.drew ?_ | with_reducible refine Below.alloc ?_ (by first | omega | (simp; done) | (simp; omega)) _)))) (first
          | (go_at_call 14; refine (T2.out _).mono ?_; rintro r w3 ⟨rfl, h3⟩; obtain ⟨hc3, hf3⟩ := bcell h3; have B3 : Below wr.heap.size wr w3 := Below.trans (by repeat (first | with_reducible exact Below.refl _ _ | with_reducible refine Below.setCell ?_ (by first | omega | (simp; done) | (simp; omega)) _ | with_reducible refine bDrewN ?_ _ | with_reducible refine Below.drew ?_ | with_reducible refine Below.alloc ?_ (by first | omega | (simp; done) | (simp; omega)) _)) (h3.mono (by first | omega | (simp; done) | (simp; omega))); have z3 := h3.size; simp at z3; have z3a : wr.heap.size ≤ w3.heap.size := (by omega)))
        all_goals
          go_wp2_with fail
          go_meet
          case rel =>
            refine ⟨_, rfl, rfl, rfl, ?_, ?_, ?_, ?_, ?_, ?_, (by repeat (first | with_reducible exact Below.refl _ _ | with_reducible exact B3 | with_reducible refine Below.setCell ?_ (by first | omega | (simp; done) | (simp; omega)) _ | with_reducible refine bDrewN ?_ _ | with_reducible refine Below.drew ?_ | with_reducible refine Below.alloc ?_ (by first | omega | (simp; done) | (simp; omega)) _))⟩
            all_goals first | omega | (simp [go_sem, *]; done) | (simp; omega) | (simp [*]; omega)
      case rest =>
      clear c0 c1 c2 c3 a0 zp zf
      obtain ⟨p, rfl, rfl, rfl, hp1, hp2, v0, v1, v2, v3, hB⟩ := hcut
      have CA : Hid (LasAt w.heap.size w1 wc (y0, y1, y2, y3)) := HA.out.below hB
      have zwr : w.heap.size < wr.heap.size := HA.out.2.1
      clear HA hB hg
      obtain ⟨hS, hD⟩ := CA.out
      obtain ⟨zp, zf, c0, c1, c2, c3⟩ := hD
      have ne : ¬ p = w.heap.size := by omega
      have BC : Below w.heap.size w wc := B1.trans (hS.below (Nat.le_refl _) (by omega))
      clear hS
      cases ov
      · have NO : r = k := LastV.one HL.out ⟨hk, HO.out, fun _ => by rw [HV.out]; rfl⟩
        subst NO
        go_wp2
        go_ret
        exact ⟨rfl, (by repeat (first | with_reducible exact Below.refl _ _ | with_reducible exact BC | with_reducible refine Below.setCell ?_ (by first | omega | (simp; done) | (simp; omega)) _ | with_reducible refine bDrewN ?_ _ | with_reducible refine Below.drew ?_ | with_reducible refine Below.alloc ?_ (by first | omega | (simp; done) | (simp; omega)) _))⟩
      · by_cases l0 : 0 < lk
        · have NO : r = k := LastV.one HL.out ⟨hk, HO.out, fun _ => by rw [HV.out]; simp; omega⟩
          subst NO
          go_wp2
          go_ret
          exact ⟨rfl, (by repeat (first | with_reducible exact Below.refl _ _ | with_reducible exact BC | with_reducible refine Below.setCell ?_ (by first | omega | (simp; done) | (simp; omega)) _ | with_reducible refine bDrewN ?_ _ | with_reducible refine Below.drew ?_ | with_reducible refine Below.alloc ?_ (by first | omega | (simp; done) | (simp; omega)) _))⟩
        · have NX : Hid ((u0, u1, u2, u3) = runB (C, M, G, F) V (k + 1)) := by
            show _ = nextB (runB (C, M, G, F) V k) _
            rw [← HY.out]
            exact HU.out.symm
          have OX : Hid (∀ j, j < k + 1 → bearsB (C, M, G, F) V j = true) := fun j hj => by
            by_cases q : j = k
            · subst q
              rw [HV.out]
              simp; omega
            · exact HO.out j (by omega)
          have CS := LasAt.set CA.out u0 u1 u2 u3
          unfold setB4 at CS
          have HCS : Hid (LasAt w.heap.size w1 _ (u0, u1, u2, u3)) := CS
          clear CS
          go_wp2
          go_roundw
          case rel => exact ⟨k + 1, (u0, u1, u2, u3), by have := HN.out; omega, by go_num, HCS.out, NX.out, OX.out⟩
          case measure => have := HN.out; simp [intOf]; omega
    · obtain rfl : k = n := by omega
      have NO : r = k := LastV.one HL.out ⟨hk, HO.out, fun h => by omega⟩
      have BC : Below w.heap.size w wr := B1.trans (HA.out.1.below (Nat.le_refl _) (by omega))
      subst NO
      go_wp2
      go_ret
      exact ⟨rfl, (by repeat (first | with_reducible exact Below.refl _ _ | with_reducible exact BC | with_reducible refine Below.setCell ?_ (by first | omega | (simp; done) | (simp; omega)) _ | with_reducible refine bDrewN ?_ _ | with_reducible refine Below.drew ?_ | with_reducible refine Below.alloc ?_ (by first | omega | (simp; done) | (simp; omega)) _))⟩
set_option maxHeartbeats 2000000 in
theorem specLasts_no (C M G F : Int) (s : Option Addr) (n c : Nat) (w : World) (hb : batB C M G F = false) :
    Calls Try.prog 18 #[.agg #[.int .i64 C, .int .i64 M, .int .i64 G, .int .i64 F], .slice s n c] w fun e w' => e = .returned (.int .i64 0) ∧ Below w.heap.size w w' := by
  go_enter Try.func18, Try.ntmps18
  go_wp2_with fail
  refine (l11Battery_any _ _ _ _ _).mono ?_
  rintro e w1 ⟨rfl, hr⟩
  have B1 : Below w.heap.size w w1 := Below.trans (by repeat (first | with_reducible exact Below.refl _ _ | with_reducible refine Below.setCell ?_ (by first | omega | (simp; done) | (simp; omega)) _ | with_reducible refine bDrewN ?_ _ | with_reducible refine Below.drew ?_ | with_reducible refine Below.alloc ?_ (by first | omega | (simp; done) | (simp; omega)) _)) (hr.mono (by first | omega | (simp; done) | (simp; omega)))
  rw [hb]
  go_wp2
  go_ret
  exact ⟨rfl, (by repeat (first | with_reducible exact Below.refl _ _ | with_reducible exact B1 | with_reducible refine Below.setCell ?_ (by first | omega | (simp; done) | (simp; omega)) _ | with_reducible refine bDrewN ?_ _ | with_reducible refine Below.drew ?_ | with_reducible refine Below.alloc ?_ (by first | omega | (simp; done) | (simp; omega)) _))⟩
set_option maxHeartbeats 2000000 in
theorem specLasts_far (C M G F : Int) (s : Option Addr) (n c : Nat) (w : World) (hn : 1000 < (n : Int)) :
    Calls Try.prog 18 #[.agg #[.int .i64 C, .int .i64 M, .int .i64 G, .int .i64 F], .slice s n c] w fun e w' => e = .returned (.int .i64 0) ∧ Below w.heap.size w w' := by
  cases hb : batB C M G F
  · exact specLasts_no C M G F s n c w hb
  go_enter Try.func18, Try.ntmps18
  go_wp2_with fail
  refine (l11Battery_any _ _ _ _ _).mono ?_
  rintro e w1 ⟨rfl, hr⟩
  have B1 : Below w.heap.size w w1 := Below.trans (by repeat (first | with_reducible exact Below.refl _ _ | with_reducible refine Below.setCell ?_ (by first | omega | (simp; done) | (simp; omega)) _ | with_reducible refine bDrewN ?_ _ | with_reducible refine Below.drew ?_ | with_reducible refine Below.alloc ?_ (by first | omega | (simp; done) | (simp; omega)) _)) (hr.mono (by first | omega | (simp; done) | (simp; omega)))
  rw [hb]
  go_wp2
  go_ret
  exact ⟨rfl, (by repeat (first | with_reducible exact Below.refl _ _ | with_reducible exact B1 | with_reducible refine Below.setCell ?_ (by first | omega | (simp; done) | (simp; omega)) _ | with_reducible refine bDrewN ?_ _ | with_reducible refine Below.drew ?_ | with_reducible refine Below.alloc ?_ (by first | omega | (simp; done) | (simp; omega)) _))⟩
theorem specLasts_any (C M G F : Int) (s : Option Addr) (n c r : Nat) (V : Nat → Int) (w : World) (HR : RowI w s n V) (h1 : (n : Int) ≤ 1000 → LastV (bearsB (C, M, G, F) V) n r) (h2 : 1000 < (n : Int) → r = 0) :
    Calls Try.prog 18 #[.agg #[.int .i64 C, .int .i64 M, .int .i64 G, .int .i64 F], .slice s n c] w fun e w' => e = .returned (.int .i64 (r : Int)) ∧ Below w.heap.size w w' := by
  by_cases h : (n : Int) ≤ 1000
  · cases hb : batB C M G F
    · obtain rfl : r = 0 := LastV.one (h1 h) (last_zero V n hb)
      exact specLasts_no C M G F s n c w hb
    · exact specLasts_go C M G F s n c r V w h HR (h1 h) hb (fun y0 y1 y2 y3 l w => specBat_any y0 y1 y2 y3 l 0 w)
  · obtain rfl : r = 0 := h2 (by omega)
    exact specLasts_far C M G F s n c w (by omega)
end Go.Proofs.Ytdoekgnmbdekgaa
