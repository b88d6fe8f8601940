/-
What is proved: a loop, a hold and two lists that are drawn from a code: any of them, in memory of their own.
-/
import Derived.Test.YtdpghhgfkhlliaaLbH
import Derived.Test.YtdpghhgfkhlliaaLbT
import Derived.Test.YtdpghhgfkhlliaaRdC
import Derived.Deep.RegionHeld3
import Derived.Deep.DeepCutAuto
namespace Go.Proofs.Ytdpghhgfkhlliaa
set_option maxRecDepth 40000
open Go.RowKit
set_option linter.unusedVariables false
set_option linter.unusedSimpArgs false

/-- What lies ready while the lists are drawn: the loop and the hold that were drawn, the places of the answer. -/
def Kept (w0 q7 q8 : Nat) (wr : World) (P I D S L H B : Int) (on : Bool) (u v o : Int) : Prop :=
  LoopAt wr q7 P I D S L H B ∧ HoldAt wr q8 on u v o ∧ (LoopAt wr w0 0 0 0 0 0 0 0 ∧ ∀ o, wr.frozen? ⟨w0, o, none⟩ = false) ∧ HoldAt wr (w0 + 1) false 0 0 0
theorem Kept.low {w0 q7 q8 b : Nat} {wr w' : World} {P I D S L H B : Int} {on : Bool} {u v o : Int} (h : Kept w0 q7 q8 wr P I D S L H B on u v o) (hb : Below b wr w') (h7 : q7 < b) (h8 : q8 < b) (h0 : w0 + 1 < b) : Kept w0 q7 q8 w' P I D S L H B on u v o :=
  ⟨h.1.low hb h7, h.2.1.low hb h8, ⟨h.2.2.1.1.low hb (by omega), fun o => (hb.frozen (p := ⟨w0, o, none⟩) (by simp only; omega)).trans (h.2.2.1.2 o)⟩, h.2.2.2.low hb h0⟩
theorem Kept.beside {w0 q7 q8 r : Nat} {wr w' : World} {P I D S L H B : Int} {on : Bool} {u v o : Int} (h : Kept w0 q7 q8 wr P I D S L H B on u v o) (hb : Beside r wr w') (h7 : q7 ≠ r) (h8 : q8 ≠ r) (h0 : w0 ≠ r) (h1 : w0 + 1 ≠ r) : Kept w0 q7 q8 w' P I D S L H B on u v o :=
  ⟨h.1.beside hb h7, h.2.1.beside hb h8, ⟨h.2.2.1.1.beside hb h0, fun o => (hb.frozen (p := ⟨w0, o, none⟩) h.2.2.1.1.1 h0).trans (h.2.2.1.2 o)⟩, h.2.2.2.beside hb h1⟩
theorem row_far {w : World} {g b q : Nat} {m : Nat} {V : Nat → Int} {x : Value} (h : RowI w (some ⟨g, 0, none⟩) m V) (ne : g ≠ b) : RowI (w.setCell ⟨b, q, none⟩ x) (some ⟨g, 0, none⟩) m V := fun j hj => by
  obtain ⟨k, o, e, hl, hc⟩ := h j hj
  cases e
  exact ⟨g, 0, rfl, by simpa using hl, ((Beside.setCell b w q _).cell (p := ⟨g, 0 + j, none⟩) hl ne).trans hc⟩
theorem row_drewN {w : World} {s : Option Addr} {m : Nat} {V : Nat → Int} (h : RowI w s m V) (k : Nat) : RowI (w.drewN k) s m V := h.below (bDrewN (Below.refl _ _) k)
theorem row_drew {w : World} {s : Option Addr} {m : Nat} {V : Nat → Int} (h : RowI w s m V) : RowI w.drew s m V := h.below (Below.drew (Below.refl _ _))
theorem row_made (w : World) (n : Nat) (t : TypeId) : RowI (w.alloc (.cells (madeCells #[.int .i64 0] n) t)) (some ⟨w.heap.size, 0, none⟩) n (fun _ => 0) := fun j hj => by
  obtain ⟨_, hz, _, hc⟩ := rowTo_start w n (fun _ => 0) t
  refine ⟨_, 0, rfl, hz, ?_⟩
  rw [Nat.zero_add, hc j hj]
  simp
set_option maxRecDepth 20000 in
set_option maxHeartbeats 16000000 in
theorem drawLoopRun_any {s : Option Addr} {n c : Nat} {w : World} (h : Hid (Code8 w s n)) :
    Calls Try.prog 21 #[.slice s n c] w fun e w' => ∃ P I D S L H B on u v o m1 s1 c1 V1 m2 s2 c2 V2, e = .returned (.tuple #[.agg #[.int .i64 P, .int .i64 I, .int .i64 D, .int .i64 S, .int .i64 L, .int .i64 H, .int .i64 B], .agg #[.bool on, .int .i64 u, .int .i64 v, .int .i64 o], .slice s1 m1 c1, .slice s2 m2 c2]) ∧ m1 ≤ 1048576 ∧ m2 ≤ 1048576 ∧ RowI w' s1 m1 V1 ∧ RowI w' s2 m2 V2 ∧ Below w.heap.size w w' := by
  go_enter Try.func21, Try.ntmps21
  go_upto_region 1 with fail
  obtain ⟨wd, hwd⟩ : ∃ wd, wd = (w.alloc (.cells #[.int .i64 0, .int .i64 0, .int .i64 0, .int .i64 0, .int .i64 0, .int .i64 0, .int .i64 0] 27)).alloc (.cells #[.bool false, .int .i64 0, .int .i64 0, .int .i64 0] 29) := ⟨_, rfl⟩
  rw [← hwd]
  have B0 : Below w.heap.size w wd := by rw [hwd]; exact (by repeat (first | with_reducible exact Below.refl _ _ | with_reducible refine Below.setCell ?_ (by first | omega | (simp; done) | (simp; omega)) _ | with_reducible refine bDrewN ?_ _ | with_reducible refine Below.drew ?_ | with_reducible refine Below.alloc ?_ (by first | omega | (simp; done) | (simp; omega)) _))
  have ed : wd.heap.size = w.heap.size + 1 + 1 := by rw [hwd]; simp
  have RL : Hid (LoopAt wd w.heap.size 0 0 0 0 0 0 0 ∧ ∀ o, wd.frozen? ⟨w.heap.size, o, none⟩ = false) := by rw [hwd]; refine ⟨⟨by simp; omega, ?_, ?_, ?_, ?_, ?_, ?_, ?_⟩, fun o => ?_⟩ <;> simp [go_sem]
  have RH : Hid (HoldAt wd (w.heap.size + 1) false 0 0 0) := by rw [hwd]; refine ⟨by simp, fun o => ?_, ?_, ?_, ?_, ?_⟩ <;> simp [go_sem]
  clear hwd
  have HC0 : Hid (Code8 wd s n) := h.out.below B0
  go_wp2_with fail
  refine (open_any HC0).mono ?_
  rintro e w1 ⟨rfl, R1x, b1⟩
  have R1 : Hid (Rd w1 wd.heap.size s n c 0) := R1x
  have RL1 : Hid (LoopAt w1 w.heap.size 0 0 0 0 0 0 0 ∧ ∀ o, w1.frozen? ⟨w.heap.size, o, none⟩ = false) := ⟨RL.out.1.below b1, fun o => (b1.frozen (p := ⟨w.heap.size, o, none⟩) RL.out.1.1).trans (RL.out.2 o)⟩
  have RH1 : Hid (HoldAt w1 (w.heap.size + 1) false 0 0 0) := RH.out.below b1
  have B1 : Hid (Below w.heap.size w w1) := B0.trans (b1.mono B0.size)
  have z1 : wd.heap.size < w1.heap.size := R1x.1
  clear R1x b1 RL RH B0
  obtain ⟨r, hr⟩ : ∃ r, r = wd.heap.size := ⟨_, rfl⟩
  rw [← hr] at R1 z1 ed ⊢
  have er : w.heap.size + 1 < r := by omega
  clear hr ed
  go_wp2_with fail
  refine (loop_any R1.out).mono ?_
  rintro e w2 ⟨P, I, D, S, L, H, B, p2, rfl, La, Lb, Ha, Hb, R2x, b2⟩
  have R2 : Hid (Rd w2 r s n c p2) := R2x
  have RL2 : Hid (LoopAt w2 w.heap.size 0 0 0 0 0 0 0 ∧ ∀ o, w2.frozen? ⟨w.heap.size, o, none⟩ = false) := ⟨RL1.out.1.beside b2 (by omega), fun o => (b2.frozen (p := ⟨w.heap.size, o, none⟩) RL1.out.1.1 (by simp only; omega)).trans (RL1.out.2 o)⟩
  have RH2 : Hid (HoldAt w2 (w.heap.size + 1) false 0 0 0) := RH1.out.beside b2 (by omega)
  have B2 : Hid (Below w.heap.size w w2) := B1.out.trans (b2.below (by omega) B1.out.size)
  have z2 : w1.heap.size ≤ w2.heap.size := b2.2.2.2.1
  clear R2x b2 R1 RL1 RH1 B1
  go_upto_region 3 with fail
  obtain ⟨we, hwe⟩ : ∃ we, we = w2.alloc (.cells #[.int .i64 P, .int .i64 I, .int .i64 D, .int .i64 S, .int .i64 L, .int .i64 H, .int .i64 B] 27) := ⟨_, rfl⟩
  rw [← hwe]
  have be : Below w2.heap.size w2 we := by rw [hwe]; exact (by repeat (first | with_reducible exact Below.refl _ _ | with_reducible refine Below.setCell ?_ (by first | omega | (simp; done) | (simp; omega)) _ | with_reducible refine bDrewN ?_ _ | with_reducible refine Below.drew ?_ | with_reducible refine Below.alloc ?_ (by first | omega | (simp; done) | (simp; omega)) _))
  have LE : Hid (LoopAt we w2.heap.size P I D S L H B) := by rw [hwe]; refine ⟨by simp, ?_, ?_, ?_, ?_, ?_, ?_, ?_⟩ <;> simp [go_sem]
  have RE : Hid (Rd we r s n c p2) := R2.out.below be
  have RLE : Hid (LoopAt we w.heap.size 0 0 0 0 0 0 0 ∧ ∀ o, we.frozen? ⟨w.heap.size, o, none⟩ = false) := ⟨RL2.out.1.below be, fun o => (be.frozen (p := ⟨w.heap.size, o, none⟩) RL2.out.1.1).trans (RL2.out.2 o)⟩
  have RHE : Hid (HoldAt we (w.heap.size + 1) false 0 0 0) := RH2.out.below be
  have BE : Hid (Below w.heap.size w we) := B2.out.trans (be.mono B2.out.size)
  have ze : w2.heap.size < we.heap.size := LE.out.1
  clear hwe be R2 RL2 RH2 B2
  obtain ⟨zq, c0, c1, c2, c3, c4, c5, c6⟩ := LE.out
  go_wp2_with fail
  refine (hold_any P I D S L H B Ha Hb RE.out).mono ?_
  rintro e w3 ⟨on, u, v, o, p3, rfl, R3x, b3⟩
  clear zq c0 c1 c2 c3 c4 c5 c6
  have R3 : Hid (Rd w3 r s n c p3) := R3x
  have L3 : Hid (LoopAt w3 w2.heap.size P I D S L H B) := LE.out.beside b3 (by omega)
  have RL3 : Hid (LoopAt w3 w.heap.size 0 0 0 0 0 0 0 ∧ ∀ o, w3.frozen? ⟨w.heap.size, o, none⟩ = false) := ⟨RLE.out.1.beside b3 (by omega), fun o => (b3.frozen (p := ⟨w.heap.size, o, none⟩) RLE.out.1.1 (by simp only; omega)).trans (RLE.out.2 o)⟩
  have RH3 : Hid (HoldAt w3 (w.heap.size + 1) false 0 0 0) := RHE.out.beside b3 (by omega)
  have B3 : Hid (Below w.heap.size w w3) := BE.out.trans (b3.below (by omega) BE.out.size)
  have z3 : we.heap.size ≤ w3.heap.size := b3.2.2.2.1
  clear R3x b3 RE LE RLE RHE BE
  go_upto_region 4 with fail
  obtain ⟨wB, hwB⟩ : ∃ wB, wB = w3.alloc (.cells #[.bool on, .int .i64 u, .int .i64 v, .int .i64 o] 29) := ⟨_, rfl⟩
  rw [← hwB]
  have bB : Below w3.heap.size w3 wB := by rw [hwB]; exact (by repeat (first | with_reducible exact Below.refl _ _ | with_reducible refine Below.setCell ?_ (by first | omega | (simp; done) | (simp; omega)) _ | with_reducible refine bDrewN ?_ _ | with_reducible refine Below.drew ?_ | with_reducible refine Below.alloc ?_ (by first | omega | (simp; done) | (simp; omega)) _))
  have KB : Hid (Kept w.heap.size w2.heap.size w3.heap.size wB P I D S L H B on u v o) := ⟨L3.out.below bB, by rw [hwB]; refine ⟨by simp, fun o => ?_, ?_, ?_, ?_, ?_⟩ <;> simp [go_sem], ⟨RL3.out.1.below bB, fun o => (bB.frozen (p := ⟨w.heap.size, o, none⟩) RL3.out.1.1).trans (RL3.out.2 o)⟩, RH3.out.below bB⟩
  have RB : Hid (Rd wB r s n c p3) := R3.out.below bB
  have BB : Hid (Below w.heap.size w wB) := B3.out.trans (bB.mono B3.out.size)
  have zB : w3.heap.size < wB.heap.size := KB.out.2.1.1
  clear hwB bB R3 L3 RL3 RH3 B3
  go_wp2_with fail
  refine (near_any (-900) 900 (by omega) (by omega) (by omega) (Rd.below RB.out (Below.trans (below0 wB _) ((below0 _ _).mono (by first | omega | (simp; done) | (simp; omega)))))).mono ?_
  rintro e w4 ⟨x0, p4, rfl, xa, xb, R4, b4⟩
  have T0 : Hid (Two r s n c wB w4 (.slice (some ⟨wB.heap.size, 0, none⟩) 0 0) (.slice (some ⟨wB.heap.size + 1, 0, none⟩) 0 0) [] []) := by
    have O9 := (madeL_lit (b0 := 0) (base := wB.heap.size) wB (Nat.le_refl _)).1
    have O10 := (madeL_lit (b0 := 0) (base := wB.heap.size) (wB.alloc (.cells #[] 2)) (by simp)).1
    have e1 : (wB.alloc (.cells #[] 2)).heap.size = wB.heap.size + 1 := by simp
    rw [e1] at O10
    refine two_read (by omega) (wr := (wB.alloc (.cells #[] 2)).alloc (.cells #[] 2)) ⟨O9.alloc _, O10, fun g q1 q2 => ?_, (Beside.of (below0 _ _)).trans (Beside.of (below0 _ _)), p3, Rd.below RB.out (Below.trans (below0 wB _) ((below0 _ _).mono (by first | omega | (simp; done) | (simp; omega))))⟩ b4 R4
    have a1 : wB.heap.size = g := by simpa [Value.ownBlock] using q1
    have a2 : wB.heap.size + 1 = g := by simpa [Value.ownBlock] using q2
    omega
  clear R4 b4
  obtain ⟨-, -, -, -, p4', R4⟩ := T0.out
  go_wp2_with fail
  refine (size_any 4 40 (by omega) (by omega) (by omega) (by omega) R4).mono ?_
  rintro e w5 ⟨N, p5, rfl, N0, N1, R5, b5⟩
  have T5 : Hid (Two r s n c wB w5 (.slice (some ⟨wB.heap.size, 0, none⟩) 0 0) (.slice (some ⟨wB.heap.size + 1, 0, none⟩) 0 0) [] []) := two_read (by omega) T0.out b5 R5
  clear R4 R5 b5 T0
  go_wp2_with fail
  go_loopw [9, 10, 11, 12] (fun va vb xx i wr => ∃ (k : Nat) (l m : List Int) (y : Int), (k : Int) ≤ N ∧ i = .int .i64 (N - k) ∧ xx = .int .i64 y ∧ -900 ≤ y ∧ y ≤ 900 ∧ Hid (l.length = k) ∧ Hid (m.length = k) ∧ Two r s n c wB wr va vb l m) (fun _ _ _ i _ => (intOf i).toNat)
  case atStart => exact ⟨0, [], [], x0, by omega, by simp, rfl, xa, xb, rfl, rfl, T5.out⟩
  case round =>
    obtain ⟨k, l, m, y, hk, rfl, rfl, ya, yb, hl, hm, hT⟩ := hrel
    have HT : Hid (Two r s n c wB wr u9 u10 l m) := hT
    have HO : Hid (wr.ownsRow wB.heap.size 2 1 u9 l.length (cellsOf l)) := hT.1
    have zBr : wB.heap.size ≤ wr.heap.size := hT.2.2.2.1.2.2.2.1
    clear hT
    by_cases hlt : (k : Int) < N
    · have q0 : 0 < N - (k : Int) := by omega
      go_wp2_with (at_builtin; refine list_i64h wB.heap.size u9 l.length (cellsOf l) (.tmp 31) (.tmp 33) (by rfl) (by rfl) (by rfl) (by rfl) HO.out (by rw [hl.out]; omega) (by omega) ?_; intro ga capa wa hownA hgrowA hltA hatA)
      have TA : Hid (Two r s n c wB wa (.slice (some ⟨ga, 0, none⟩) (l.length + 1) capa) u10 (l ++ [y]) m) := two_on1 (by omega) HT.out hownA hgrowA hatA
      clear hownA hgrowA hatA hltA HO HT zBr
      obtain ⟨-, -, -, bA, pA, RA⟩ := TA.out
      have RAh : Hid (Rd wa r s n c pA) := RA
      clear RA bA
      refine (near_any (-200) 200 (by omega) (by omega) (by omega) RAh.out).mono ?_
      rintro e wb ⟨d, pb, rfl, da, db, Rb, bb⟩
      have TB : Hid (Two r s n c wB wb (.slice (some ⟨ga, 0, none⟩) (l.length + 1) capa) u10 (l ++ [y]) m) := two_read (by omega) TA.out bb Rb
      have HO2 : Hid (wb.ownsRow wB.heap.size 2 1 u10 m.length (cellsOf m)) := TB.out.2.1
      have zBb : wB.heap.size ≤ wb.heap.size := TB.out.2.2.2.1.2.2.2.1
      clear Rb bb TA RAh
      go_wp2_with (at_builtin; refine list_i64h wB.heap.size u10 m.length (cellsOf m) (.tmp 35) (.tmp 40) (by rfl) (by rfl) (by rfl) (by rfl) HO2.out (by rw [hm.out]; omega) (by omega) ?_; intro gb capb wc2 hownB hgrowB hltB hatB)
      have TC : Hid (Two r s n c wB wc2 (.slice (some ⟨ga, 0, none⟩) (l.length + 1) capa) (.slice (some ⟨gb, 0, none⟩) (m.length + 1) capb) (l ++ [y]) (m ++ [y + d])) := two_on2 (by omega) TB.out hownB hgrowB hatB
      clear hownB hgrowB hatB hltB HO2 TB zBb
      obtain ⟨-, -, -, -, pC, RC⟩ := TC.out
      have RCh : Hid (Rd wc2 r s n c pC) := RC
      clear RC
      refine (once_any 8 (by omega) (by omega) RCh.out).mono ?_
      rintro e wo ⟨bo, po, rfl, Ro, bbo⟩
      have TO : Hid (Two r s n c wB wo (.slice (some ⟨ga, 0, none⟩) (l.length + 1) capa) (.slice (some ⟨gb, 0, none⟩) (m.length + 1) capb) (l ++ [y]) (m ++ [y + d])) := two_read (by omega) TC.out bbo Ro
      have ROh : Hid (Rd wo r s n c po) := Ro
      clear Ro bbo TC RCh
      cases bo
      · go_wp2
        go_roundw
        case rel => exact ⟨k + 1, l ++ [y], m ++ [y + d], y, by omega, by congr 1; omega, rfl, ya, yb, (by show _ = _; simp [hl.out]), (by show _ = _; simp [hm.out]), TO.out⟩
        case measure => simp [intOf]; omega
      · go_wp2_with fail
        refine (near_any (-900) 900 (by omega) (by omega) (by omega) ROh.out).mono ?_
        rintro e wn ⟨y', pn, rfl, ya', yb', Rn, bn⟩
        have TN : Hid (Two r s n c wB wn (.slice (some ⟨ga, 0, none⟩) (l.length + 1) capa) (.slice (some ⟨gb, 0, none⟩) (m.length + 1) capb) (l ++ [y]) (m ++ [y + d])) := two_read (by omega) TO.out bn Rn
        clear Rn bn TO
        go_wp2
        go_roundw
        case rel => exact ⟨k + 1, l ++ [y], m ++ [y + d], y', by omega, by congr 1; omega, rfl, ya', yb', (by show _ = _; simp [hl.out]), (by show _ = _; simp [hm.out]), TN.out⟩
        case measure => simp [intOf]; omega
    · obtain rfl : (k : Int) = N := by omega
      clear T5 HO zBr
      obtain ⟨-, -, -, -, pe, Re⟩ := HT.out
      have REh : Hid (Rd wr r s n c pe) := Re
      clear Re
      go_wp2_with fail
      refine (once_any 24 (by omega) (by omega) REh.out).mono ?_
      rintro e wp ⟨b1, pp, rfl, Rp, bp⟩
      have TP : Hid (Two r s n c wB wp u9 u10 l m) := two_read (by omega) HT.out bp Rp
      have RP : Hid (Rd wp r s n c pp) := Rp
      clear Rp bp HT REh
      cases b1
      case false =>
        go_wp2_with fail
        refine (once_any 24 (by omega) (by omega) RP.out).mono ?_
        rintro e wt ⟨b2, pt, rfl, Rt, bt⟩
        have TT : Hid (Two r s n c wB wt u9 u10 (l) m) := two_read (by omega) TP.out bt Rt
        have RT : Hid (Rd wt r s n c pt) := Rt
        clear Rt bt
        cases b2
        case false =>
          obtain ⟨g1, cap1, I1⟩ := in_block TT.out.1 (by simp [hl.out] <;> omega)
          obtain ⟨g2, cap2, I2⟩ := in_block TT.out.2.1 (by rw [hm.out]; omega)
          have ne12 : g1 ≠ g2 := two_ne TT.out I1 I2
          have gl1 : wB.heap.size ≤ g1 := I1.2.1
          have gl2 : wB.heap.size ≤ g2 := I2.2.1
          have lm1 : (l).length ≤ 1048576 := by simp [hl.out] <;> omega
          have lm2 : m.length ≤ 1048576 := by rw [hm.out]; omega
          have m0 : (0 : Int) < (m.length : Int) := by rw [hm.out]; omega
          have RX := RT
          have ROW1 : Hid (RowI wt (some ⟨g1, 0, none⟩) (l).length (nthI (l))) := I1.row
          have ROW2 : Hid (RowI wt (some ⟨g2, 0, none⟩) m.length (nthI m)) := I2.row
          have KX : Hid (Kept w.heap.size w2.heap.size w3.heap.size wt P I D S L H B on u v o) := KB.out.beside TT.out.2.2.2.1 (by omega) (by omega) (by omega) (by omega)
          have BX : Hid (Below w.heap.size w wt) := BB.out.trans (TT.out.2.2.2.1.below (by omega) BB.out.size)
          obtain ⟨W1, hW1⟩ : ∃ W1, W1 = nthI (l) := ⟨_, rfl⟩
          obtain ⟨W2, hW2⟩ : ∃ W2, W2 = nthI m := ⟨_, rfl⟩
          rw [← hW1] at ROW1
          rw [← hW2] at ROW2
          obtain ⟨hv1, -⟩ := I1
          obtain ⟨hv2, -⟩ := I2
          rw [hv2]
          rw [hv1]
          clear hW1 hW2 TT RT hv1 hv2
          go_wp2_with fail
          refine (once_any 50 (by omega) (by omega) RX.out).mono ?_
          rintro e wy ⟨b3, py, rfl, Ry, by'⟩
          have RY : Hid (Rd wy r s n c py) := Ry
          have Y1 : Hid (RowI wy (some ⟨g1, 0, none⟩) (l).length W1) := ROW1.out.beside by' (by intro g o e; cases e; omega)
          have Y2 : Hid (RowI wy (some ⟨g2, 0, none⟩) m.length W2) := ROW2.out.beside by' (by intro g o e; cases e; omega)
          have KY : Hid (Kept w.heap.size w2.heap.size w3.heap.size wy P I D S L H B on u v o) := KX.out.beside by' (by omega) (by omega) (by omega) (by omega)
          have BY : Below w.heap.size w wy := BX.out.trans (by'.below (by omega) BX.out.size)
          clear Ry by' RX ROW1 ROW2 KX BX
          cases b3
          case false =>
            obtain ⟨⟨k7, c0, c1', c2', c3, c4, c5, c6⟩, ⟨k8, -, e0, e1, e2, e3⟩, ⟨⟨ka, a0, a1, a2, a3, a4, a5, a6⟩, fa⟩, ⟨kb, fb, b0, b1, b2, b3⟩⟩ := KY.out
            have fa0 := fa 0
            have fa1 := fa 1
            have fa2 := fa 2
            have fa3 := fa 3
            have fa4 := fa 4
            have fa5 := fa 5
            have fa6 := fa 6
            have fb0 := fb 0
            have fb1 := fb 1
            have fb2 := fb 2
            have fb3 := fb 3
            have n1 : ¬ w2.heap.size = w.heap.size := by omega
            have n2 : ¬ w3.heap.size = w.heap.size := by omega
            have n3 : ¬ w2.heap.size = w.heap.size + 1 := by omega
            have n4 : ¬ w3.heap.size = w.heap.size + 1 := by omega
            clear fa fb
            go_wp2_with fail
            go_region
            all_goals
              go_wp2
              refine bodyPost_ret (v := .tuple #[.agg #[.int .i64 P, .int .i64 I, .int .i64 D, .int .i64 S, .int .i64 L, .int .i64 H, .int .i64 B], .agg #[.bool on, .int .i64 u, .int .i64 v, .int .i64 o], .slice (some ⟨g1, 0, none⟩) (l).length cap1, .slice (some ⟨g2, 0, none⟩) m.length cap2]) (by simp [results, Try.results21, go_sem, a0, a1, a2, a3, a4, a5, a6, b0, b1, b2, b3]) rfl ⟨P, I, D, S, L, H, B, on, u, v, o, _, _, _, W1, _, _, _, W2, rfl, lm1, lm2, (by repeat (first | with_reducible exact Y1.out | with_reducible refine row_far ?_ (by omega) | with_reducible refine row_drewN ?_ _ | with_reducible refine row_drew ?_)), (by repeat (first | with_reducible exact Y2.out | with_reducible refine row_far ?_ (by omega) | with_reducible refine row_drewN ?_ _ | with_reducible refine row_drew ?_)), (by repeat (first | with_reducible exact Below.refl _ _ | with_reducible exact BY | with_reducible refine Below.setCell ?_ (by first | omega | (simp; done) | (simp; omega)) _ | with_reducible refine bDrewN ?_ _ | with_reducible refine Below.drew ?_ | with_reducible refine Below.alloc ?_ (by first | omega | (simp; done) | (simp; omega)) _))⟩
          case true =>
            have HBY : Hid (Below w.heap.size w wy) := BY
            clear BY Y1 Y2
            go_wp2_with fail
            refine (below_any 2 RY.out).mono ?_
            rintro e wz ⟨kz, pz, rfl, kz0, kz1, kz2, Rz, bz⟩
            have KZ : Hid (Kept w.heap.size w2.heap.size w3.heap.size wz P I D S L H B on u v o) := KY.out.beside bz (by omega) (by omega) (by omega) (by omega)
            have BZ : Below w.heap.size w wz := HBY.out.trans (bz.below (by omega) HBY.out.size)
            have zz : w.heap.size ≤ wz.heap.size := BZ.size
            clear Rz bz RY KY HBY
            by_cases qz : kz = 0
            · subst qz
              have hmk : ∀ w, (Instr.makeSlice 36 (.int .i64 1000) (.int .i64 1000)).run Try.prog w = .ok (.slice (some ⟨w.heap.size, 0, none⟩) 1000 1000) (w.alloc (.cells (madeCells #[.int .i64 0] 1000) 2)) := fun w => make_i64 1000 (by omega) w
              go_upto_region 22 with fail
              obtain ⟨wv, hwv⟩ : ∃ wv, wv = (wz.alloc (.cells (madeCells #[.int .i64 0] 1000) 2)).alloc (.cells (madeCells #[.int .i64 0] 1000) 2) := ⟨_, rfl⟩
              rw [← hwv]
              have bv : Below wz.heap.size wz wv := by rw [hwv]; exact (by repeat (first | with_reducible exact Below.refl _ _ | with_reducible refine Below.setCell ?_ (by first | omega | (simp; done) | (simp; omega)) _ | with_reducible refine bDrewN ?_ _ | with_reducible refine Below.drew ?_ | with_reducible refine Below.alloc ?_ (by first | omega | (simp; done) | (simp; omega)) _))
              have V1 : Hid (RowI wv (some ⟨wz.heap.size, 0, none⟩) 1000 (fun _ => 0)) := by rw [hwv]; exact (row_made wz 1000 _).below (below0 _ _)
              have V2 : Hid (RowI wv (some ⟨wz.heap.size + 1, 0, none⟩) 1000 (fun _ => 0)) := by rw [hwv]; have q := row_made (wz.alloc (.cells (madeCells #[.int .i64 0] 1000) 2)) 1000 2; rw [show (wz.alloc (.cells (madeCells #[.int .i64 0] 1000) 2)).heap.size = wz.heap.size + 1 from by simp] at q; exact q
              have KV : Hid (Kept w.heap.size w2.heap.size w3.heap.size wv P I D S L H B on u v o) := KZ.out.low bv KZ.out.1.1 KZ.out.2.1.1 KZ.out.2.2.2.1
              have BV : Below w.heap.size w wv := BZ.trans (bv.mono zz)
              have z7 := KZ.out.1.1
              have z8 := KZ.out.2.1.1
              have z9 := KZ.out.2.2.2.1
              clear hwv bv KZ BZ hmk
              obtain ⟨⟨k7, c0, c1', c2', c3, c4, c5, c6⟩, ⟨k8, -, e0, e1, e2, e3⟩, ⟨⟨ka, a0, a1, a2, a3, a4, a5, a6⟩, fa⟩, ⟨kb, fb, b0, b1, b2, b3⟩⟩ := KV.out
              have fa0 := fa 0
              have fa1 := fa 1
              have fa2 := fa 2
              have fa3 := fa 3
              have fa4 := fa 4
              have fa5 := fa 5
              have fa6 := fa 6
              have fb0 := fb 0
              have fb1 := fb 1
              have fb2 := fb 2
              have fb3 := fb 3
              have n1 : ¬ w2.heap.size = w.heap.size := by omega
              have n2 : ¬ w3.heap.size = w.heap.size := by omega
              have n3 : ¬ w2.heap.size = w.heap.size + 1 := by omega
              have n4 : ¬ w3.heap.size = w.heap.size + 1 := by omega
              clear fa fb
              go_wp2_with fail
              go_region
              all_goals
                go_wp2
                refine bodyPost_ret (v := .tuple #[.agg #[.int .i64 P, .int .i64 I, .int .i64 D, .int .i64 S, .int .i64 L, .int .i64 H, .int .i64 B], .agg #[.bool on, .int .i64 u, .int .i64 v, .int .i64 o], .slice (some ⟨wz.heap.size, 0, none⟩) 1000 1000, .slice (some ⟨wz.heap.size + 1, 0, none⟩) 1000 1000]) (by simp [results, Try.results21, go_sem, a0, a1, a2, a3, a4, a5, a6, b0, b1, b2, b3]) rfl ⟨P, I, D, S, L, H, B, on, u, v, o, _, _, _, (fun _ => 0), _, _, _, (fun _ => 0), rfl, by omega, by omega, (by repeat (first | with_reducible exact V1.out | with_reducible refine row_far ?_ (by omega) | with_reducible refine row_drewN ?_ _ | with_reducible refine row_drew ?_)), (by repeat (first | with_reducible exact V2.out | with_reducible refine row_far ?_ (by omega) | with_reducible refine row_drewN ?_ _ | with_reducible refine row_drew ?_)), (by repeat (first | with_reducible exact Below.refl _ _ | with_reducible exact BV | with_reducible refine Below.setCell ?_ (by first | omega | (simp; done) | (simp; omega)) _ | with_reducible refine bDrewN ?_ _ | with_reducible refine Below.drew ?_ | with_reducible refine Below.alloc ?_ (by first | omega | (simp; done) | (simp; omega)) _))⟩
            · obtain rfl : kz = 1 := by omega
              have hmk : ∀ w, (Instr.makeSlice 36 (.int .i64 1001) (.int .i64 1001)).run Try.prog w = .ok (.slice (some ⟨w.heap.size, 0, none⟩) 1001 1001) (w.alloc (.cells (madeCells #[.int .i64 0] 1001) 2)) := fun w => make_i64 1001 (by omega) w
              go_upto_region 22 with fail
              obtain ⟨wv, hwv⟩ : ∃ wv, wv = (wz.alloc (.cells (madeCells #[.int .i64 0] 1001) 2)).alloc (.cells (madeCells #[.int .i64 0] 1001) 2) := ⟨_, rfl⟩
              rw [← hwv]
              have bv : Below wz.heap.size wz wv := by rw [hwv]; exact (by repeat (first | with_reducible exact Below.refl _ _ | with_reducible refine Below.setCell ?_ (by first | omega | (simp; done) | (simp; omega)) _ | with_reducible refine bDrewN ?_ _ | with_reducible refine Below.drew ?_ | with_reducible refine Below.alloc ?_ (by first | omega | (simp; done) | (simp; omega)) _))
              have V1 : Hid (RowI wv (some ⟨wz.heap.size, 0, none⟩) 1001 (fun _ => 0)) := by rw [hwv]; exact (row_made wz 1001 _).below (below0 _ _)
              have V2 : Hid (RowI wv (some ⟨wz.heap.size + 1, 0, none⟩) 1001 (fun _ => 0)) := by rw [hwv]; have q := row_made (wz.alloc (.cells (madeCells #[.int .i64 0] 1001) 2)) 1001 2; rw [show (wz.alloc (.cells (madeCells #[.int .i64 0] 1001) 2)).heap.size = wz.heap.size + 1 from by simp] at q; exact q
              have KV : Hid (Kept w.heap.size w2.heap.size w3.heap.size wv P I D S L H B on u v o) := KZ.out.low bv KZ.out.1.1 KZ.out.2.1.1 KZ.out.2.2.2.1
              have BV : Below w.heap.size w wv := BZ.trans (bv.mono zz)
              have z7 := KZ.out.1.1
              have z8 := KZ.out.2.1.1
              have z9 := KZ.out.2.2.2.1
              clear hwv bv KZ BZ hmk
              obtain ⟨⟨k7, c0, c1', c2', c3, c4, c5, c6⟩, ⟨k8, -, e0, e1, e2, e3⟩, ⟨⟨ka, a0, a1, a2, a3, a4, a5, a6⟩, fa⟩, ⟨kb, fb, b0, b1, b2, b3⟩⟩ := KV.out
              have fa0 := fa 0
              have fa1 := fa 1
              have fa2 := fa 2
              have fa3 := fa 3
              have fa4 := fa 4
              have fa5 := fa 5
              have fa6 := fa 6
              have fb0 := fb 0
              have fb1 := fb 1
              have fb2 := fb 2
              have fb3 := fb 3
              have n1 : ¬ w2.heap.size = w.heap.size := by omega
              have n2 : ¬ w3.heap.size = w.heap.size := by omega
              have n3 : ¬ w2.heap.size = w.heap.size + 1 := by omega
              have n4 : ¬ w3.heap.size = w.heap.size + 1 := by omega
              clear fa fb
              go_wp2_with fail
              go_region
              all_goals
                go_wp2
                refine bodyPost_ret (v := .tuple #[.agg #[.int .i64 P, .int .i64 I, .int .i64 D, .int .i64 S, .int .i64 L, .int .i64 H, .int .i64 B], .agg #[.bool on, .int .i64 u, .int .i64 v, .int .i64 o], .slice (some ⟨wz.heap.size, 0, none⟩) 1001 1001, .slice (some ⟨wz.heap.size + 1, 0, none⟩) 1001 1001]) (by simp [results, Try.results21, go_sem, a0, a1, a2, a3, a4, a5, a6, b0, b1, b2, b3]) rfl ⟨P, I, D, S, L, H, B, on, u, v, o, _, _, _, (fun _ => 0), _, _, _, (fun _ => 0), rfl, by omega, by omega, (by repeat (first | with_reducible exact V1.out | with_reducible refine row_far ?_ (by omega) | with_reducible refine row_drewN ?_ _ | with_reducible refine row_drew ?_)), (by repeat (first | with_reducible exact V2.out | with_reducible refine row_far ?_ (by omega) | with_reducible refine row_drewN ?_ _ | with_reducible refine row_drew ?_)), (by repeat (first | with_reducible exact Below.refl _ _ | with_reducible exact BV | with_reducible refine Below.setCell ?_ (by first | omega | (simp; done) | (simp; omega)) _ | with_reducible refine bDrewN ?_ _ | with_reducible refine Below.drew ?_ | with_reducible refine Below.alloc ?_ (by first | omega | (simp; done) | (simp; omega)) _))⟩
        case true =>
          go_wp2_with fail
          refine (off_any (-1000000) 1000000 (by omega) (by omega) (by omega) RT.out).mono ?_
          rintro e wu ⟨xo, pu, rfl, wxo, Ru, bu⟩
          have TU : Hid (Two r s n c wB wu u9 u10 (l) m) := two_read (by omega) TT.out bu Ru
          have RU : Hid (Rd wu r s n c pu) := Ru
          clear Ru bu TT RT
          obtain ⟨g1, cap1, I1⟩ := in_block TU.out.1 (by simp [hl.out] <;> omega)
          obtain ⟨g2, cap2, I2⟩ := in_block TU.out.2.1 (by rw [hm.out]; omega)
          have ne12 : g1 ≠ g2 := two_ne TU.out I1 I2
          have gl1 : wB.heap.size ≤ g1 := I1.2.1
          have gl2 : wB.heap.size ≤ g2 := I2.2.1
          have lm1 : (l).length ≤ 1048576 := by simp [hl.out] <;> omega
          have lm2 : m.length ≤ 1048576 := by rw [hm.out]; omega
          have m0 : (0 : Int) < (m.length : Int) := by rw [hm.out]; omega
          have U1 : Hid (RowI wu (some ⟨g1, 0, none⟩) (l).length (nthI (l))) := I1.row
          have U2 : Hid (RowI wu (some ⟨g2, 0, none⟩) m.length (nthI m)) := I2.row
          have KU : Hid (Kept w.heap.size w2.heap.size w3.heap.size wu P I D S L H B on u v o) := KB.out.beside TU.out.2.2.2.1 (by omega) (by omega) (by omega) (by omega)
          have BU : Hid (Below w.heap.size w wu) := BB.out.trans (TU.out.2.2.2.1.below (by omega) BB.out.size)
          have zu : wB.heap.size ≤ wu.heap.size := TU.out.2.2.2.1.2.2.2.1
          obtain ⟨hv1, -⟩ := I1
          obtain ⟨hv2, -, zg2, cg2, fg2⟩ := I2
          have d0 := cg2 0 (by rw [hm.out]; omega)
          have f0 := fg2 0
          rw [hv2]
          rw [hv1]
          clear TU hv1 hv2 cg2 fg2
          go_upto_region 18 with fail
          obtain ⟨wx, hwx⟩ : ∃ wx, wx = wu.setCell ⟨g2, 0, none⟩ (.int .i64 xo) := ⟨_, rfl⟩
          rw [← hwx]
          have bx : Below wB.heap.size wu wx := by rw [hwx]; exact (by repeat (first | with_reducible exact Below.refl _ _ | with_reducible refine Below.setCell ?_ (by first | omega | (simp; done) | (simp; omega)) _ | with_reducible refine bDrewN ?_ _ | with_reducible refine Below.drew ?_ | with_reducible refine Below.alloc ?_ (by first | omega | (simp; done) | (simp; omega)) _))
          have RX : Hid (Rd wx r s n c pu) := Rd.below' RU.out (bx.mono (by omega))
          have ROW1 : Hid (RowI wx (some ⟨g1, 0, none⟩) (l).length (nthI (l))) := by rw [hwx]; exact row_set U1.out ne12
          have ROW2 : Hid (RowI wx (some ⟨g2, 0, none⟩) m.length (fun j => if j = 0 then xo else nthI m j)) := by rw [hwx]; exact row_put U2.out
          have KX : Hid (Kept w.heap.size w2.heap.size w3.heap.size wx P I D S L H B on u v o) := KU.out.low bx (by omega) (by omega) (by omega)
          have BX : Hid (Below w.heap.size w wx) := BU.out.trans (bx.mono BB.out.size)
          obtain ⟨W1, hW1⟩ : ∃ W1, W1 = nthI (l) := ⟨_, rfl⟩
          obtain ⟨W2, hW2⟩ : ∃ W2, W2 = (fun j => if j = 0 then xo else nthI m j) := ⟨_, rfl⟩
          rw [← hW1] at ROW1
          rw [← hW2] at ROW2
          clear hW1 hW2 hwx bx d0 f0 zg2 RU U1 U2 KU BU
          go_wp2_with fail
          refine (once_any 50 (by omega) (by omega) RX.out).mono ?_
          rintro e wy ⟨b3, py, rfl, Ry, by'⟩
          have RY : Hid (Rd wy r s n c py) := Ry
          have Y1 : Hid (RowI wy (some ⟨g1, 0, none⟩) (l).length W1) := ROW1.out.beside by' (by intro g o e; cases e; omega)
          have Y2 : Hid (RowI wy (some ⟨g2, 0, none⟩) m.length W2) := ROW2.out.beside by' (by intro g o e; cases e; omega)
          have KY : Hid (Kept w.heap.size w2.heap.size w3.heap.size wy P I D S L H B on u v o) := KX.out.beside by' (by omega) (by omega) (by omega) (by omega)
          have BY : Below w.heap.size w wy := BX.out.trans (by'.below (by omega) BX.out.size)
          clear Ry by' RX ROW1 ROW2 KX BX
          cases b3
          case false =>
            obtain ⟨⟨k7, c0, c1', c2', c3, c4, c5, c6⟩, ⟨k8, -, e0, e1, e2, e3⟩, ⟨⟨ka, a0, a1, a2, a3, a4, a5, a6⟩, fa⟩, ⟨kb, fb, b0, b1, b2, b3⟩⟩ := KY.out
            have fa0 := fa 0
            have fa1 := fa 1
            have fa2 := fa 2
            have fa3 := fa 3
            have fa4 := fa 4
            have fa5 := fa 5
            have fa6 := fa 6
            have fb0 := fb 0
            have fb1 := fb 1
            have fb2 := fb 2
            have fb3 := fb 3
            have n1 : ¬ w2.heap.size = w.heap.size := by omega
            have n2 : ¬ w3.heap.size = w.heap.size := by omega
            have n3 : ¬ w2.heap.size = w.heap.size + 1 := by omega
            have n4 : ¬ w3.heap.size = w.heap.size + 1 := by omega
            clear fa fb
            go_wp2_with fail
            go_region
            all_goals
              go_wp2
              refine bodyPost_ret (v := .tuple #[.agg #[.int .i64 P, .int .i64 I, .int .i64 D, .int .i64 S, .int .i64 L, .int .i64 H, .int .i64 B], .agg #[.bool on, .int .i64 u, .int .i64 v, .int .i64 o], .slice (some ⟨g1, 0, none⟩) (l).length cap1, .slice (some ⟨g2, 0, none⟩) m.length cap2]) (by simp [results, Try.results21, go_sem, a0, a1, a2, a3, a4, a5, a6, b0, b1, b2, b3]) rfl ⟨P, I, D, S, L, H, B, on, u, v, o, _, _, _, W1, _, _, _, W2, rfl, lm1, lm2, (by repeat (first | with_reducible exact Y1.out | with_reducible refine row_far ?_ (by omega) | with_reducible refine row_drewN ?_ _ | with_reducible refine row_drew ?_)), (by repeat (first | with_reducible exact Y2.out | with_reducible refine row_far ?_ (by omega) | with_reducible refine row_drewN ?_ _ | with_reducible refine row_drew ?_)), (by repeat (first | with_reducible exact Below.refl _ _ | with_reducible exact BY | with_reducible refine Below.setCell ?_ (by first | omega | (simp; done) | (simp; omega)) _ | with_reducible refine bDrewN ?_ _ | with_reducible refine Below.drew ?_ | with_reducible refine Below.alloc ?_ (by first | omega | (simp; done) | (simp; omega)) _))⟩
          case true =>
            have HBY : Hid (Below w.heap.size w wy) := BY
            clear BY Y1 Y2
            go_wp2_with fail
            refine (below_any 2 RY.out).mono ?_
            rintro e wz ⟨kz, pz, rfl, kz0, kz1, kz2, Rz, bz⟩
            have KZ : Hid (Kept w.heap.size w2.heap.size w3.heap.size wz P I D S L H B on u v o) := KY.out.beside bz (by omega) (by omega) (by omega) (by omega)
            have BZ : Below w.heap.size w wz := HBY.out.trans (bz.below (by omega) HBY.out.size)
            have zz : w.heap.size ≤ wz.heap.size := BZ.size
            clear Rz bz RY KY HBY
            by_cases qz : kz = 0
            · subst qz
              have hmk : ∀ w, (Instr.makeSlice 36 (.int .i64 1000) (.int .i64 1000)).run Try.prog w = .ok (.slice (some ⟨w.heap.size, 0, none⟩) 1000 1000) (w.alloc (.cells (madeCells #[.int .i64 0] 1000) 2)) := fun w => make_i64 1000 (by omega) w
              go_upto_region 22 with fail
              obtain ⟨wv, hwv⟩ : ∃ wv, wv = (wz.alloc (.cells (madeCells #[.int .i64 0] 1000) 2)).alloc (.cells (madeCells #[.int .i64 0] 1000) 2) := ⟨_, rfl⟩
              rw [← hwv]
              have bv : Below wz.heap.size wz wv := by rw [hwv]; exact (by repeat (first | with_reducible exact Below.refl _ _ | with_reducible refine Below.setCell ?_ (by first | omega | (simp; done) | (simp; omega)) _ | with_reducible refine bDrewN ?_ _ | with_reducible refine Below.drew ?_ | with_reducible refine Below.alloc ?_ (by first | omega | (simp; done) | (simp; omega)) _))
              have V1 : Hid (RowI wv (some ⟨wz.heap.size, 0, none⟩) 1000 (fun _ => 0)) := by rw [hwv]; exact (row_made wz 1000 _).below (below0 _ _)
              have V2 : Hid (RowI wv (some ⟨wz.heap.size + 1, 0, none⟩) 1000 (fun _ => 0)) := by rw [hwv]; have q := row_made (wz.alloc (.cells (madeCells #[.int .i64 0] 1000) 2)) 1000 2; rw [show (wz.alloc (.cells (madeCells #[.int .i64 0] 1000) 2)).heap.size = wz.heap.size + 1 from by simp] at q; exact q
              have KV : Hid (Kept w.heap.size w2.heap.size w3.heap.size wv P I D S L H B on u v o) := KZ.out.low bv KZ.out.1.1 KZ.out.2.1.1 KZ.out.2.2.2.1
              have BV : Below w.heap.size w wv := BZ.trans (bv.mono zz)
              have z7 := KZ.out.1.1
              have z8 := KZ.out.2.1.1
              have z9 := KZ.out.2.2.2.1
              clear hwv bv KZ BZ hmk
              obtain ⟨⟨k7, c0, c1', c2', c3, c4, c5, c6⟩, ⟨k8, -, e0, e1, e2, e3⟩, ⟨⟨ka, a0, a1, a2, a3, a4, a5, a6⟩, fa⟩, ⟨kb, fb, b0, b1, b2, b3⟩⟩ := KV.out
              have fa0 := fa 0
              have fa1 := fa 1
              have fa2 := fa 2
              have fa3 := fa 3
              have fa4 := fa 4
              have fa5 := fa 5
              have fa6 := fa 6
              have fb0 := fb 0
              have fb1 := fb 1
              have fb2 := fb 2
              have fb3 := fb 3
              have n1 : ¬ w2.heap.size = w.heap.size := by omega
              have n2 : ¬ w3.heap.size = w.heap.size := by omega
              have n3 : ¬ w2.heap.size = w.heap.size + 1 := by omega
              have n4 : ¬ w3.heap.size = w.heap.size + 1 := by omega
              clear fa fb
              go_wp2_with fail
              go_region
              all_goals
                go_wp2
                refine bodyPost_ret (v := .tuple #[.agg #[.int .i64 P, .int .i64 I, .int .i64 D, .int .i64 S, .int .i64 L, .int .i64 H, .int .i64 B], .agg #[.bool on, .int .i64 u, .int .i64 v, .int .i64 o], .slice (some ⟨wz.heap.size, 0, none⟩) 1000 1000, .slice (some ⟨wz.heap.size + 1, 0, none⟩) 1000 1000]) (by simp [results, Try.results21, go_sem, a0, a1, a2, a3, a4, a5, a6, b0, b1, b2, b3]) rfl ⟨P, I, D, S, L, H, B, on, u, v, o, _, _, _, (fun _ => 0), _, _, _, (fun _ => 0), rfl, by omega, by omega, (by repeat (first | with_reducible exact V1.out | with_reducible refine row_far ?_ (by omega) | with_reducible refine row_drewN ?_ _ | with_reducible refine row_drew ?_)), (by repeat (first | with_reducible exact V2.out | with_reducible refine row_far ?_ (by omega) | with_reducible refine row_drewN ?_ _ | with_reducible refine row_drew ?_)), (by repeat (first | with_reducible exact Below.refl _ _ | with_reducible exact BV | with_reducible refine Below.setCell ?_ (by first | omega | (simp; done) | (simp; omega)) _ | with_reducible refine bDrewN ?_ _ | with_reducible refine Below.drew ?_ | with_reducible refine Below.alloc ?_ (by first | omega | (simp; done) | (simp; omega)) _))⟩
            · obtain rfl : kz = 1 := by omega
              have hmk : ∀ w, (Instr.makeSlice 36 (.int .i64 1001) (.int .i64 1001)).run Try.prog w = .ok (.slice (some ⟨w.heap.size, 0, none⟩) 1001 1001) (w.alloc (.cells (madeCells #[.int .i64 0] 1001) 2)) := fun w => make_i64 1001 (by omega) w
              go_upto_region 22 with fail
              obtain ⟨wv, hwv⟩ : ∃ wv, wv = (wz.alloc (.cells (madeCells #[.int .i64 0] 1001) 2)).alloc (.cells (madeCells #[.int .i64 0] 1001) 2) := ⟨_, rfl⟩
              rw [← hwv]
              have bv : Below wz.heap.size wz wv := by rw [hwv]; exact (by repeat (first | with_reducible exact Below.refl _ _ | with_reducible refine Below.setCell ?_ (by first | omega | (simp; done) | (simp; omega)) _ | with_reducible refine bDrewN ?_ _ | with_reducible refine Below.drew ?_ | with_reducible refine Below.alloc ?_ (by first | omega | (simp; done) | (simp; omega)) _))
              have V1 : Hid (RowI wv (some ⟨wz.heap.size, 0, none⟩) 1001 (fun _ => 0)) := by rw [hwv]; exact (row_made wz 1001 _).below (below0 _ _)
              have V2 : Hid (RowI wv (some ⟨wz.heap.size + 1, 0, none⟩) 1001 (fun _ => 0)) := by rw [hwv]; have q := row_made (wz.alloc (.cells (madeCells #[.int .i64 0] 1001) 2)) 1001 2; rw [show (wz.alloc (.cells (madeCells #[.int .i64 0] 1001) 2)).heap.size = wz.heap.size + 1 from by simp] at q; exact q
              have KV : Hid (Kept w.heap.size w2.heap.size w3.heap.size wv P I D S L H B on u v o) := KZ.out.low bv KZ.out.1.1 KZ.out.2.1.1 KZ.out.2.2.2.1
              have BV : Below w.heap.size w wv := BZ.trans (bv.mono zz)
              have z7 := KZ.out.1.1
              have z8 := KZ.out.2.1.1
              have z9 := KZ.out.2.2.2.1
              clear hwv bv KZ BZ hmk
              obtain ⟨⟨k7, c0, c1', c2', c3, c4, c5, c6⟩, ⟨k8, -, e0, e1, e2, e3⟩, ⟨⟨ka, a0, a1, a2, a3, a4, a5, a6⟩, fa⟩, ⟨kb, fb, b0, b1, b2, b3⟩⟩ := KV.out
              have fa0 := fa 0
              have fa1 := fa 1
              have fa2 := fa 2
              have fa3 := fa 3
              have fa4 := fa 4
              have fa5 := fa 5
              have fa6 := fa 6
              have fb0 := fb 0
              have fb1 := fb 1
              have fb2 := fb 2
              have fb3 := fb 3
              have n1 : ¬ w2.heap.size = w.heap.size := by omega
              have n2 : ¬ w3.heap.size = w.heap.size := by omega
              have n3 : ¬ w2.heap.size = w.heap.size + 1 := by omega
              have n4 : ¬ w3.heap.size = w.heap.size + 1 := by omega
              clear fa fb
              go_wp2_with fail
              go_region
              all_goals
                go_wp2
                refine bodyPost_ret (v := .tuple #[.agg #[.int .i64 P, .int .i64 I, .int .i64 D, .int .i64 S, .int .i64 L, .int .i64 H, .int .i64 B], .agg #[.bool on, .int .i64 u, .int .i64 v, .int .i64 o], .slice (some ⟨wz.heap.size, 0, none⟩) 1001 1001, .slice (some ⟨wz.heap.size + 1, 0, none⟩) 1001 1001]) (by simp [results, Try.results21, go_sem, a0, a1, a2, a3, a4, a5, a6, b0, b1, b2, b3]) rfl ⟨P, I, D, S, L, H, B, on, u, v, o, _, _, _, (fun _ => 0), _, _, _, (fun _ => 0), rfl, by omega, by omega, (by repeat (first | with_reducible exact V1.out | with_reducible refine row_far ?_ (by omega) | with_reducible refine row_drewN ?_ _ | with_reducible refine row_drew ?_)), (by repeat (first | with_reducible exact V2.out | with_reducible refine row_far ?_ (by omega) | with_reducible refine row_drewN ?_ _ | with_reducible refine row_drew ?_)), (by repeat (first | with_reducible exact Below.refl _ _ | with_reducible exact BV | with_reducible refine Below.setCell ?_ (by first | omega | (simp; done) | (simp; omega)) _ | with_reducible refine bDrewN ?_ _ | with_reducible refine Below.drew ?_ | with_reducible refine Below.alloc ?_ (by first | omega | (simp; done) | (simp; omega)) _))⟩
      case true =>
        have HO : Hid (wp.ownsRow wB.heap.size 2 1 u9 l.length (cellsOf l)) := TP.out.1
        have zBp : wB.heap.size ≤ wp.heap.size := TP.out.2.2.2.1.2.2.2.1
        go_wp2_with (at_builtin; refine list_i64h wB.heap.size u9 l.length (cellsOf l) (.tmp 48) (.tmp 49) (by rfl) (by rfl) (by rfl) (by rfl) HO.out (by rw [hl.out]; omega) (by omega) ?_; intro ga capa wq hownA hgrowA hltA hatA)
        have TQ : Hid (Two r s n c wB wq (.slice (some ⟨ga, 0, none⟩) (l.length + 1) capa) u10 (l ++ [0]) m) := two_on1 (by omega) TP.out hownA hgrowA hatA
        clear hownA hgrowA hatA hltA HO zBp TP RP
        obtain ⟨-, -, -, -, pq, Rq⟩ := TQ.out
        have RQ : Hid (Rd wq r s n c pq) := Rq
        clear Rq
        refine (once_any 24 (by omega) (by omega) RQ.out).mono ?_
        rintro e wt ⟨b2, pt, rfl, Rt, bt⟩
        have TT : Hid (Two r s n c wB wt (.slice (some ⟨ga, 0, none⟩) (l.length + 1) capa) u10 (l ++ [0]) m) := two_read (by omega) TQ.out bt Rt
        have RT : Hid (Rd wt r s n c pt) := Rt
        clear Rt bt
        cases b2
        case false =>
          obtain ⟨g1, cap1, I1⟩ := in_block TT.out.1 (by simp [hl.out] <;> omega)
          obtain ⟨g2, cap2, I2⟩ := in_block TT.out.2.1 (by rw [hm.out]; omega)
          have ne12 : g1 ≠ g2 := two_ne TT.out I1 I2
          have gl1 : wB.heap.size ≤ g1 := I1.2.1
          have gl2 : wB.heap.size ≤ g2 := I2.2.1
          have lm1 : (l ++ [0]).length ≤ 1048576 := by simp [hl.out] <;> omega
          have lm2 : m.length ≤ 1048576 := by rw [hm.out]; omega
          have m0 : (0 : Int) < (m.length : Int) := by rw [hm.out]; omega
          have RX := RT
          have ROW1 : Hid (RowI wt (some ⟨g1, 0, none⟩) (l ++ [0]).length (nthI (l ++ [0]))) := I1.row
          have ROW2 : Hid (RowI wt (some ⟨g2, 0, none⟩) m.length (nthI m)) := I2.row
          have KX : Hid (Kept w.heap.size w2.heap.size w3.heap.size wt P I D S L H B on u v o) := KB.out.beside TT.out.2.2.2.1 (by omega) (by omega) (by omega) (by omega)
          have BX : Hid (Below w.heap.size w wt) := BB.out.trans (TT.out.2.2.2.1.below (by omega) BB.out.size)
          obtain ⟨W1, hW1⟩ : ∃ W1, W1 = nthI (l ++ [0]) := ⟨_, rfl⟩
          obtain ⟨W2, hW2⟩ : ∃ W2, W2 = nthI m := ⟨_, rfl⟩
          rw [← hW1] at ROW1
          rw [← hW2] at ROW2
          obtain ⟨hv1, -⟩ := I1
          obtain ⟨hv2, -⟩ := I2
          rw [hv2]
          rw [hv1]
          clear hW1 hW2 TT RT hv1 hv2
          go_wp2_with fail
          refine (once_any 50 (by omega) (by omega) RX.out).mono ?_
          rintro e wy ⟨b3, py, rfl, Ry, by'⟩
          have RY : Hid (Rd wy r s n c py) := Ry
          have Y1 : Hid (RowI wy (some ⟨g1, 0, none⟩) (l ++ [0]).length W1) := ROW1.out.beside by' (by intro g o e; cases e; omega)
          have Y2 : Hid (RowI wy (some ⟨g2, 0, none⟩) m.length W2) := ROW2.out.beside by' (by intro g o e; cases e; omega)
          have KY : Hid (Kept w.heap.size w2.heap.size w3.heap.size wy P I D S L H B on u v o) := KX.out.beside by' (by omega) (by omega) (by omega) (by omega)
          have BY : Below w.heap.size w wy := BX.out.trans (by'.below (by omega) BX.out.size)
          clear Ry by' RX ROW1 ROW2 KX BX
          cases b3
          case false =>
            obtain ⟨⟨k7, c0, c1', c2', c3, c4, c5, c6⟩, ⟨k8, -, e0, e1, e2, e3⟩, ⟨⟨ka, a0, a1, a2, a3, a4, a5, a6⟩, fa⟩, ⟨kb, fb, b0, b1, b2, b3⟩⟩ := KY.out
            have fa0 := fa 0
            have fa1 := fa 1
            have fa2 := fa 2
            have fa3 := fa 3
            have fa4 := fa 4
            have fa5 := fa 5
            have fa6 := fa 6
            have fb0 := fb 0
            have fb1 := fb 1
            have fb2 := fb 2
            have fb3 := fb 3
            have n1 : ¬ w2.heap.size = w.heap.size := by omega
            have n2 : ¬ w3.heap.size = w.heap.size := by omega
            have n3 : ¬ w2.heap.size = w.heap.size + 1 := by omega
            have n4 : ¬ w3.heap.size = w.heap.size + 1 := by omega
            clear fa fb
            go_wp2_with fail
            go_region
            all_goals
              go_wp2
              refine bodyPost_ret (v := .tuple #[.agg #[.int .i64 P, .int .i64 I, .int .i64 D, .int .i64 S, .int .i64 L, .int .i64 H, .int .i64 B], .agg #[.bool on, .int .i64 u, .int .i64 v, .int .i64 o], .slice (some ⟨g1, 0, none⟩) (l ++ [0]).length cap1, .slice (some ⟨g2, 0, none⟩) m.length cap2]) (by simp [results, Try.results21, go_sem, a0, a1, a2, a3, a4, a5, a6, b0, b1, b2, b3]) rfl ⟨P, I, D, S, L, H, B, on, u, v, o, _, _, _, W1, _, _, _, W2, rfl, lm1, lm2, (by repeat (first | with_reducible exact Y1.out | with_reducible refine row_far ?_ (by omega) | with_reducible refine row_drewN ?_ _ | with_reducible refine row_drew ?_)), (by repeat (first | with_reducible exact Y2.out | with_reducible refine row_far ?_ (by omega) | with_reducible refine row_drewN ?_ _ | with_reducible refine row_drew ?_)), (by repeat (first | with_reducible exact Below.refl _ _ | with_reducible exact BY | with_reducible refine Below.setCell ?_ (by first | omega | (simp; done) | (simp; omega)) _ | with_reducible refine bDrewN ?_ _ | with_reducible refine Below.drew ?_ | with_reducible refine Below.alloc ?_ (by first | omega | (simp; done) | (simp; omega)) _))⟩
          case true =>
            have HBY : Hid (Below w.heap.size w wy) := BY
            clear BY Y1 Y2
            go_wp2_with fail
            refine (below_any 2 RY.out).mono ?_
            rintro e wz ⟨kz, pz, rfl, kz0, kz1, kz2, Rz, bz⟩
            have KZ : Hid (Kept w.heap.size w2.heap.size w3.heap.size wz P I D S L H B on u v o) := KY.out.beside bz (by omega) (by omega) (by omega) (by omega)
            have BZ : Below w.heap.size w wz := HBY.out.trans (bz.below (by omega) HBY.out.size)
            have zz : w.heap.size ≤ wz.heap.size := BZ.size
            clear Rz bz RY KY HBY
            by_cases qz : kz = 0
            · subst qz
              have hmk : ∀ w, (Instr.makeSlice 36 (.int .i64 1000) (.int .i64 1000)).run Try.prog w = .ok (.slice (some ⟨w.heap.size, 0, none⟩) 1000 1000) (w.alloc (.cells (madeCells #[.int .i64 0] 1000) 2)) := fun w => make_i64 1000 (by omega) w
              go_upto_region 22 with fail
              obtain ⟨wv, hwv⟩ : ∃ wv, wv = (wz.alloc (.cells (madeCells #[.int .i64 0] 1000) 2)).alloc (.cells (madeCells #[.int .i64 0] 1000) 2) := ⟨_, rfl⟩
              rw [← hwv]
              have bv : Below wz.heap.size wz wv := by rw [hwv]; exact (by repeat (first | with_reducible exact Below.refl _ _ | with_reducible refine Below.setCell ?_ (by first | omega | (simp; done) | (simp; omega)) _ | with_reducible refine bDrewN ?_ _ | with_reducible refine Below.drew ?_ | with_reducible refine Below.alloc ?_ (by first | omega | (simp; done) | (simp; omega)) _))
              have V1 : Hid (RowI wv (some ⟨wz.heap.size, 0, none⟩) 1000 (fun _ => 0)) := by rw [hwv]; exact (row_made wz 1000 _).below (below0 _ _)
              have V2 : Hid (RowI wv (some ⟨wz.heap.size + 1, 0, none⟩) 1000 (fun _ => 0)) := by rw [hwv]; have q := row_made (wz.alloc (.cells (madeCells #[.int .i64 0] 1000) 2)) 1000 2; rw [show (wz.alloc (.cells (madeCells #[.int .i64 0] 1000) 2)).heap.size = wz.heap.size + 1 from by simp] at q; exact q
              have KV : Hid (Kept w.heap.size w2.heap.size w3.heap.size wv P I D S L H B on u v o) := KZ.out.low bv KZ.out.1.1 KZ.out.2.1.1 KZ.out.2.2.2.1
              have BV : Below w.heap.size w wv := BZ.trans (bv.mono zz)
              have z7 := KZ.out.1.1
              have z8 := KZ.out.2.1.1
              have z9 := KZ.out.2.2.2.1
              clear hwv bv KZ BZ hmk
              obtain ⟨⟨k7, c0, c1', c2', c3, c4, c5, c6⟩, ⟨k8, -, e0, e1, e2, e3⟩, ⟨⟨ka, a0, a1, a2, a3, a4, a5, a6⟩, fa⟩, ⟨kb, fb, b0, b1, b2, b3⟩⟩ := KV.out
              have fa0 := fa 0
              have fa1 := fa 1
              have fa2 := fa 2
              have fa3 := fa 3
              have fa4 := fa 4
              have fa5 := fa 5
              have fa6 := fa 6
              have fb0 := fb 0
              have fb1 := fb 1
              have fb2 := fb 2
              have fb3 := fb 3
              have n1 : ¬ w2.heap.size = w.heap.size := by omega
              have n2 : ¬ w3.heap.size = w.heap.size := by omega
              have n3 : ¬ w2.heap.size = w.heap.size + 1 := by omega
              have n4 : ¬ w3.heap.size = w.heap.size + 1 := by omega
              clear fa fb
              go_wp2_with fail
              go_region
              all_goals
                go_wp2
                refine bodyPost_ret (v := .tuple #[.agg #[.int .i64 P, .int .i64 I, .int .i64 D, .int .i64 S, .int .i64 L, .int .i64 H, .int .i64 B], .agg #[.bool on, .int .i64 u, .int .i64 v, .int .i64 o], .slice (some ⟨wz.heap.size, 0, none⟩) 1000 1000, .slice (some ⟨wz.heap.size + 1, 0, none⟩) 1000 1000]) (by simp [results, Try.results21, go_sem, a0, a1, a2, a3, a4, a5, a6, b0, b1, b2, b3]) rfl ⟨P, I, D, S, L, H, B, on, u, v, o, _, _, _, (fun _ => 0), _, _, _, (fun _ => 0), rfl, by omega, by omega, (by repeat (first | with_reducible exact V1.out | with_reducible refine row_far ?_ (by omega) | with_reducible refine row_drewN ?_ _ | with_reducible refine row_drew ?_)), (by repeat (first | with_reducible exact V2.out | with_reducible refine row_far ?_ (by omega) | with_reducible refine row_drewN ?_ _ | with_reducible refine row_drew ?_)), (by repeat (first | with_reducible exact Below.refl _ _ | with_reducible exact BV | with_reducible refine Below.setCell ?_ (by first | omega | (simp; done) | (simp; omega)) _ | with_reducible refine bDrewN ?_ _ | with_reducible refine Below.drew ?_ | with_reducible refine Below.alloc ?_ (by first | omega | (simp; done) | (simp; omega)) _))⟩
            · obtain rfl : kz = 1 := by omega
              have hmk : ∀ w, (Instr.makeSlice 36 (.int .i64 1001) (.int .i64 1001)).run Try.prog w = .ok (.slice (some ⟨w.heap.size, 0, none⟩) 1001 1001) (w.alloc (.cells (madeCells #[.int .i64 0] 1001) 2)) := fun w => make_i64 1001 (by omega) w
              go_upto_region 22 with fail
              obtain ⟨wv, hwv⟩ : ∃ wv, wv = (wz.alloc (.cells (madeCells #[.int .i64 0] 1001) 2)).alloc (.cells (madeCells #[.int .i64 0] 1001) 2) := ⟨_, rfl⟩
              rw [← hwv]
              have bv : Below wz.heap.size wz wv := by rw [hwv]; exact (by repeat (first | with_reducible exact Below.refl _ _ | with_reducible refine Below.setCell ?_ (by first | omega | (simp; done) | (simp; omega)) _ | with_reducible refine bDrewN ?_ _ | with_reducible refine Below.drew ?_ | with_reducible refine Below.alloc ?_ (by first | omega | (simp; done) | (simp; omega)) _))
              have V1 : Hid (RowI wv (some ⟨wz.heap.size, 0, none⟩) 1001 (fun _ => 0)) := by rw [hwv]; exact (row_made wz 1001 _).below (below0 _ _)
              have V2 : Hid (RowI wv (some ⟨wz.heap.size + 1, 0, none⟩) 1001 (fun _ => 0)) := by rw [hwv]; have q := row_made (wz.alloc (.cells (madeCells #[.int .i64 0] 1001) 2)) 1001 2; rw [show (wz.alloc (.cells (madeCells #[.int .i64 0] 1001) 2)).heap.size = wz.heap.size + 1 from by simp] at q; exact q
              have KV : Hid (Kept w.heap.size w2.heap.size w3.heap.size wv P I D S L H B on u v o) := KZ.out.low bv KZ.out.1.1 KZ.out.2.1.1 KZ.out.2.2.2.1
              have BV : Below w.heap.size w wv := BZ.trans (bv.mono zz)
              have z7 := KZ.out.1.1
              have z8 := KZ.out.2.1.1
              have z9 := KZ.out.2.2.2.1
              clear hwv bv KZ BZ hmk
              obtain ⟨⟨k7, c0, c1', c2', c3, c4, c5, c6⟩, ⟨k8, -, e0, e1, e2, e3⟩, ⟨⟨ka, a0, a1, a2, a3, a4, a5, a6⟩, fa⟩, ⟨kb, fb, b0, b1, b2, b3⟩⟩ := KV.out
              have fa0 := fa 0
              have fa1 := fa 1
              have fa2 := fa 2
              have fa3 := fa 3
              have fa4 := fa 4
              have fa5 := fa 5
              have fa6 := fa 6
              have fb0 := fb 0
              have fb1 := fb 1
              have fb2 := fb 2
              have fb3 := fb 3
              have n1 : ¬ w2.heap.size = w.heap.size := by omega
              have n2 : ¬ w3.heap.size = w.heap.size := by omega
              have n3 : ¬ w2.heap.size = w.heap.size + 1 := by omega
              have n4 : ¬ w3.heap.size = w.heap.size + 1 := by omega
              clear fa fb
              go_wp2_with fail
              go_region
              all_goals
                go_wp2
                refine bodyPost_ret (v := .tuple #[.agg #[.int .i64 P, .int .i64 I, .int .i64 D, .int .i64 S, .int .i64 L, .int .i64 H, .int .i64 B], .agg #[.bool on, .int .i64 u, .int .i64 v, .int .i64 o], .slice (some ⟨wz.heap.size, 0, none⟩) 1001 1001, .slice (some ⟨wz.heap.size + 1, 0, none⟩) 1001 1001]) (by simp [results, Try.results21, go_sem, a0, a1, a2, a3, a4, a5, a6, b0, b1, b2, b3]) rfl ⟨P, I, D, S, L, H, B, on, u, v, o, _, _, _, (fun _ => 0), _, _, _, (fun _ => 0), rfl, by omega, by omega, (by repeat (first | with_reducible exact V1.out | with_reducible refine row_far ?_ (by omega) | with_reducible refine row_drewN ?_ _ | with_reducible refine row_drew ?_)), (by repeat (first | with_reducible exact V2.out | with_reducible refine row_far ?_ (by omega) | with_reducible refine row_drewN ?_ _ | with_reducible refine row_drew ?_)), (by repeat (first | with_reducible exact Below.refl _ _ | with_reducible exact BV | with_reducible refine Below.setCell ?_ (by first | omega | (simp; done) | (simp; omega)) _ | with_reducible refine bDrewN ?_ _ | with_reducible refine Below.drew ?_ | with_reducible refine Below.alloc ?_ (by first | omega | (simp; done) | (simp; omega)) _))⟩
        case true =>
          go_wp2_with fail
          refine (off_any (-1000000) 1000000 (by omega) (by omega) (by omega) RT.out).mono ?_
          rintro e wu ⟨xo, pu, rfl, wxo, Ru, bu⟩
          have TU : Hid (Two r s n c wB wu (.slice (some ⟨ga, 0, none⟩) (l.length + 1) capa) u10 (l ++ [0]) m) := two_read (by omega) TT.out bu Ru
          have RU : Hid (Rd wu r s n c pu) := Ru
          clear Ru bu TT RT
          obtain ⟨g1, cap1, I1⟩ := in_block TU.out.1 (by simp [hl.out] <;> omega)
          obtain ⟨g2, cap2, I2⟩ := in_block TU.out.2.1 (by rw [hm.out]; omega)
          have ne12 : g1 ≠ g2 := two_ne TU.out I1 I2
          have gl1 : wB.heap.size ≤ g1 := I1.2.1
          have gl2 : wB.heap.size ≤ g2 := I2.2.1
          have lm1 : (l ++ [0]).length ≤ 1048576 := by simp [hl.out] <;> omega
          have lm2 : m.length ≤ 1048576 := by rw [hm.out]; omega
          have m0 : (0 : Int) < (m.length : Int) := by rw [hm.out]; omega
          have U1 : Hid (RowI wu (some ⟨g1, 0, none⟩) (l ++ [0]).length (nthI (l ++ [0]))) := I1.row
          have U2 : Hid (RowI wu (some ⟨g2, 0, none⟩) m.length (nthI m)) := I2.row
          have KU : Hid (Kept w.heap.size w2.heap.size w3.heap.size wu P I D S L H B on u v o) := KB.out.beside TU.out.2.2.2.1 (by omega) (by omega) (by omega) (by omega)
          have BU : Hid (Below w.heap.size w wu) := BB.out.trans (TU.out.2.2.2.1.below (by omega) BB.out.size)
          have zu : wB.heap.size ≤ wu.heap.size := TU.out.2.2.2.1.2.2.2.1
          obtain ⟨hv1, -⟩ := I1
          obtain ⟨hv2, -, zg2, cg2, fg2⟩ := I2
          have d0 := cg2 0 (by rw [hm.out]; omega)
          have f0 := fg2 0
          rw [hv2]
          rw [hv1]
          clear TU hv1 hv2 cg2 fg2
          go_upto_region 18 with fail
          obtain ⟨wx, hwx⟩ : ∃ wx, wx = wu.setCell ⟨g2, 0, none⟩ (.int .i64 xo) := ⟨_, rfl⟩
          rw [← hwx]
          have bx : Below wB.heap.size wu wx := by rw [hwx]; exact (by repeat (first | with_reducible exact Below.refl _ _ | with_reducible refine Below.setCell ?_ (by first | omega | (simp; done) | (simp; omega)) _ | with_reducible refine bDrewN ?_ _ | with_reducible refine Below.drew ?_ | with_reducible refine Below.alloc ?_ (by first | omega | (simp; done) | (simp; omega)) _))
          have RX : Hid (Rd wx r s n c pu) := Rd.below' RU.out (bx.mono (by omega))
          have ROW1 : Hid (RowI wx (some ⟨g1, 0, none⟩) (l ++ [0]).length (nthI (l ++ [0]))) := by rw [hwx]; exact row_set U1.out ne12
          have ROW2 : Hid (RowI wx (some ⟨g2, 0, none⟩) m.length (fun j => if j = 0 then xo else nthI m j)) := by rw [hwx]; exact row_put U2.out
          have KX : Hid (Kept w.heap.size w2.heap.size w3.heap.size wx P I D S L H B on u v o) := KU.out.low bx (by omega) (by omega) (by omega)
          have BX : Hid (Below w.heap.size w wx) := BU.out.trans (bx.mono BB.out.size)
          obtain ⟨W1, hW1⟩ : ∃ W1, W1 = nthI (l ++ [0]) := ⟨_, rfl⟩
          obtain ⟨W2, hW2⟩ : ∃ W2, W2 = (fun j => if j = 0 then xo else nthI m j) := ⟨_, rfl⟩
          rw [← hW1] at ROW1
          rw [← hW2] at ROW2
          clear hW1 hW2 hwx bx d0 f0 zg2 RU U1 U2 KU BU
          go_wp2_with fail
          refine (once_any 50 (by omega) (by omega) RX.out).mono ?_
          rintro e wy ⟨b3, py, rfl, Ry, by'⟩
          have RY : Hid (Rd wy r s n c py) := Ry
          have Y1 : Hid (RowI wy (some ⟨g1, 0, none⟩) (l ++ [0]).length W1) := ROW1.out.beside by' (by intro g o e; cases e; omega)
          have Y2 : Hid (RowI wy (some ⟨g2, 0, none⟩) m.length W2) := ROW2.out.beside by' (by intro g o e; cases e; omega)
          have KY : Hid (Kept w.heap.size w2.heap.size w3.heap.size wy P I D S L H B on u v o) := KX.out.beside by' (by omega) (by omega) (by omega) (by omega)
          have BY : Below w.heap.size w wy := BX.out.trans (by'.below (by omega) BX.out.size)
          clear Ry by' RX ROW1 ROW2 KX BX
          cases b3
          case false =>
            obtain ⟨⟨k7, c0, c1', c2', c3, c4, c5, c6⟩, ⟨k8, -, e0, e1, e2, e3⟩, ⟨⟨ka, a0, a1, a2, a3, a4, a5, a6⟩, fa⟩, ⟨kb, fb, b0, b1, b2, b3⟩⟩ := KY.out
            have fa0 := fa 0
            have fa1 := fa 1
            have fa2 := fa 2
            have fa3 := fa 3
            have fa4 := fa 4
            have fa5 := fa 5
            have fa6 := fa 6
            have fb0 := fb 0
            have fb1 := fb 1
            have fb2 := fb 2
            have fb3 := fb 3
            have n1 : ¬ w2.heap.size = w.heap.size := by omega
            have n2 : ¬ w3.heap.size = w.heap.size := by omega
            have n3 : ¬ w2.heap.size = w.heap.size + 1 := by omega
            have n4 : ¬ w3.heap.size = w.heap.size + 1 := by omega
            clear fa fb
            go_wp2_with fail
            go_region
            all_goals
              go_wp2
              refine bodyPost_ret (v := .tuple #[.agg #[.int .i64 P, .int .i64 I, .int .i64 D, .int .i64 S, .int .i64 L, .int .i64 H, .int .i64 B], .agg #[.bool on, .int .i64 u, .int .i64 v, .int .i64 o], .slice (some ⟨g1, 0, none⟩) (l ++ [0]).length cap1, .slice (some ⟨g2, 0, none⟩) m.length cap2]) (by simp [results, Try.results21, go_sem, a0, a1, a2, a3, a4, a5, a6, b0, b1, b2, b3]) rfl ⟨P, I, D, S, L, H, B, on, u, v, o, _, _, _, W1, _, _, _, W2, rfl, lm1, lm2, (by repeat (first | with_reducible exact Y1.out | with_reducible refine row_far ?_ (by omega) | with_reducible refine row_drewN ?_ _ | with_reducible refine row_drew ?_)), (by repeat (first | with_reducible exact Y2.out | with_reducible refine row_far ?_ (by omega) | with_reducible refine row_drewN ?_ _ | with_reducible refine row_drew ?_)), (by repeat (first | with_reducible exact Below.refl _ _ | with_reducible exact BY | with_reducible refine Below.setCell ?_ (by first | omega | (simp; done) | (simp; omega)) _ | with_reducible refine bDrewN ?_ _ | with_reducible refine Below.drew ?_ | with_reducible refine Below.alloc ?_ (by first | omega | (simp; done) | (simp; omega)) _))⟩
          case true =>
            have HBY : Hid (Below w.heap.size w wy) := BY
            clear BY Y1 Y2
            go_wp2_with fail
            refine (below_any 2 RY.out).mono ?_
            rintro e wz ⟨kz, pz, rfl, kz0, kz1, kz2, Rz, bz⟩
            have KZ : Hid (Kept w.heap.size w2.heap.size w3.heap.size wz P I D S L H B on u v o) := KY.out.beside bz (by omega) (by omega) (by omega) (by omega)
            have BZ : Below w.heap.size w wz := HBY.out.trans (bz.below (by omega) HBY.out.size)
            have zz : w.heap.size ≤ wz.heap.size := BZ.size
            clear Rz bz RY KY HBY
            by_cases qz : kz = 0
            · subst qz
              have hmk : ∀ w, (Instr.makeSlice 36 (.int .i64 1000) (.int .i64 1000)).run Try.prog w = .ok (.slice (some ⟨w.heap.size, 0, none⟩) 1000 1000) (w.alloc (.cells (madeCells #[.int .i64 0] 1000) 2)) := fun w => make_i64 1000 (by omega) w
              go_upto_region 22 with fail
              obtain ⟨wv, hwv⟩ : ∃ wv, wv = (wz.alloc (.cells (madeCells #[.int .i64 0] 1000) 2)).alloc (.cells (madeCells #[.int .i64 0] 1000) 2) := ⟨_, rfl⟩
              rw [← hwv]
              have bv : Below wz.heap.size wz wv := by rw [hwv]; exact (by repeat (first | with_reducible exact Below.refl _ _ | with_reducible refine Below.setCell ?_ (by first | omega | (simp; done) | (simp; omega)) _ | with_reducible refine bDrewN ?_ _ | with_reducible refine Below.drew ?_ | with_reducible refine Below.alloc ?_ (by first | omega | (simp; done) | (simp; omega)) _))
              have V1 : Hid (RowI wv (some ⟨wz.heap.size, 0, none⟩) 1000 (fun _ => 0)) := by rw [hwv]; exact (row_made wz 1000 _).below (below0 _ _)
              have V2 : Hid (RowI wv (some ⟨wz.heap.size + 1, 0, none⟩) 1000 (fun _ => 0)) := by rw [hwv]; have q := row_made (wz.alloc (.cells (madeCells #[.int .i64 0] 1000) 2)) 1000 2; rw [show (wz.alloc (.cells (madeCells #[.int .i64 0] 1000) 2)).heap.size = wz.heap.size + 1 from by simp] at q; exact q
              have KV : Hid (Kept w.heap.size w2.heap.size w3.heap.size wv P I D S L H B on u v o) := KZ.out.low bv KZ.out.1.1 KZ.out.2.1.1 KZ.out.2.2.2.1
              have BV : Below w.heap.size w wv := BZ.trans (bv.mono zz)
              have z7 := KZ.out.1.1
              have z8 := KZ.out.2.1.1
              have z9 := KZ.out.2.2.2.1
              clear hwv bv KZ BZ hmk
              obtain ⟨⟨k7, c0, c1', c2', c3, c4, c5, c6⟩, ⟨k8, -, e0, e1, e2, e3⟩, ⟨⟨ka, a0, a1, a2, a3, a4, a5, a6⟩, fa⟩, ⟨kb, fb, b0, b1, b2, b3⟩⟩ := KV.out
              have fa0 := fa 0
              have fa1 := fa 1
              have fa2 := fa 2
              have fa3 := fa 3
              have fa4 := fa 4
              have fa5 := fa 5
              have fa6 := fa 6
              have fb0 := fb 0
              have fb1 := fb 1
              have fb2 := fb 2
              have fb3 := fb 3
              have n1 : ¬ w2.heap.size = w.heap.size := by omega
              have n2 : ¬ w3.heap.size = w.heap.size := by omega
              have n3 : ¬ w2.heap.size = w.heap.size + 1 := by omega
              have n4 : ¬ w3.heap.size = w.heap.size + 1 := by omega
              clear fa fb
              go_wp2_with fail
              go_region
              all_goals
                go_wp2
                refine bodyPost_ret (v := .tuple #[.agg #[.int .i64 P, .int .i64 I, .int .i64 D, .int .i64 S, .int .i64 L, .int .i64 H, .int .i64 B], .agg #[.bool on, .int .i64 u, .int .i64 v, .int .i64 o], .slice (some ⟨wz.heap.size, 0, none⟩) 1000 1000, .slice (some ⟨wz.heap.size + 1, 0, none⟩) 1000 1000]) (by simp [results, Try.results21, go_sem, a0, a1, a2, a3, a4, a5, a6, b0, b1, b2, b3]) rfl ⟨P, I, D, S, L, H, B, on, u, v, o, _, _, _, (fun _ => 0), _, _, _, (fun _ => 0), rfl, by omega, by omega, (by repeat (first | with_reducible exact V1.out | with_reducible refine row_far ?_ (by omega) | with_reducible refine row_drewN ?_ _ | with_reducible refine row_drew ?_)), (by repeat (first | with_reducible exact V2.out | with_reducible refine row_far ?_ (by omega) | with_reducible refine row_drewN ?_ _ | with_reducible refine row_drew ?_)), (by repeat (first | with_reducible exact Below.refl _ _ | with_reducible exact BV | with_reducible refine Below.setCell ?_ (by first | omega | (simp; done) | (simp; omega)) _ | with_reducible refine bDrewN ?_ _ | with_reducible refine Below.drew ?_ | with_reducible refine Below.alloc ?_ (by first | omega | (simp; done) | (simp; omega)) _))⟩
            · obtain rfl : kz = 1 := by omega
              have hmk : ∀ w, (Instr.makeSlice 36 (.int .i64 1001) (.int .i64 1001)).run Try.prog w = .ok (.slice (some ⟨w.heap.size, 0, none⟩) 1001 1001) (w.alloc (.cells (madeCells #[.int .i64 0] 1001) 2)) := fun w => make_i64 1001 (by omega) w
              go_upto_region 22 with fail
              obtain ⟨wv, hwv⟩ : ∃ wv, wv = (wz.alloc (.cells (madeCells #[.int .i64 0] 1001) 2)).alloc (.cells (madeCells #[.int .i64 0] 1001) 2) := ⟨_, rfl⟩
              rw [← hwv]
              have bv : Below wz.heap.size wz wv := by rw [hwv]; exact (by repeat (first | with_reducible exact Below.refl _ _ | with_reducible refine Below.setCell ?_ (by first | omega | (simp; done) | (simp; omega)) _ | with_reducible refine bDrewN ?_ _ | with_reducible refine Below.drew ?_ | with_reducible refine Below.alloc ?_ (by first | omega | (simp; done) | (simp; omega)) _))
              have V1 : Hid (RowI wv (some ⟨wz.heap.size, 0, none⟩) 1001 (fun _ => 0)) := by rw [hwv]; exact (row_made wz 1001 _).below (below0 _ _)
              have V2 : Hid (RowI wv (some ⟨wz.heap.size + 1, 0, none⟩) 1001 (fun _ => 0)) := by rw [hwv]; have q := row_made (wz.alloc (.cells (madeCells #[.int .i64 0] 1001) 2)) 1001 2; rw [show (wz.alloc (.cells (madeCells #[.int .i64 0] 1001) 2)).heap.size = wz.heap.size + 1 from by simp] at q; exact q
              have KV : Hid (Kept w.heap.size w2.heap.size w3.heap.size wv P I D S L H B on u v o) := KZ.out.low bv KZ.out.1.1 KZ.out.2.1.1 KZ.out.2.2.2.1
              have BV : Below w.heap.size w wv := BZ.trans (bv.mono zz)
              have z7 := KZ.out.1.1
              have z8 := KZ.out.2.1.1
              have z9 := KZ.out.2.2.2.1
              clear hwv bv KZ BZ hmk
              obtain ⟨⟨k7, c0, c1', c2', c3, c4, c5, c6⟩, ⟨k8, -, e0, e1, e2, e3⟩, ⟨⟨ka, a0, a1, a2, a3, a4, a5, a6⟩, fa⟩, ⟨kb, fb, b0, b1, b2, b3⟩⟩ := KV.out
              have fa0 := fa 0
              have fa1 := fa 1
              have fa2 := fa 2
              have fa3 := fa 3
              have fa4 := fa 4
              have fa5 := fa 5
              have fa6 := fa 6
              have fb0 := fb 0
              have fb1 := fb 1
              have fb2 := fb 2
              have fb3 := fb 3
              have n1 : ¬ w2.heap.size = w.heap.size := by omega
              have n2 : ¬ w3.heap.size = w.heap.size := by omega
              have n3 : ¬ w2.heap.size = w.heap.size + 1 := by omega
              have n4 : ¬ w3.heap.size = w.heap.size + 1 := by omega
              clear fa fb
              go_wp2_with fail
              go_region
              all_goals
                go_wp2
                refine bodyPost_ret (v := .tuple #[.agg #[.int .i64 P, .int .i64 I, .int .i64 D, .int .i64 S, .int .i64 L, .int .i64 H, .int .i64 B], .agg #[.bool on, .int .i64 u, .int .i64 v, .int .i64 o], .slice (some ⟨wz.heap.size, 0, none⟩) 1001 1001, .slice (some ⟨wz.heap.size + 1, 0, none⟩) 1001 1001]) (by simp [results, Try.results21, go_sem, a0, a1, a2, a3, a4, a5, a6, b0, b1, b2, b3]) rfl ⟨P, I, D, S, L, H, B, on, u, v, o, _, _, _, (fun _ => 0), _, _, _, (fun _ => 0), rfl, by omega, by omega, (by repeat (first | with_reducible exact V1.out | with_reducible refine row_far ?_ (by omega) | with_reducible refine row_drewN ?_ _ | with_reducible refine row_drew ?_)), (by repeat (first | with_reducible exact V2.out | with_reducible refine row_far ?_ (by omega) | with_reducible refine row_drewN ?_ _ | with_reducible refine row_drew ?_)), (by repeat (first | with_reducible exact Below.refl _ _ | with_reducible exact BV | with_reducible refine Below.setCell ?_ (by first | omega | (simp; done) | (simp; omega)) _ | with_reducible refine bDrewN ?_ _ | with_reducible refine Below.drew ?_ | with_reducible refine Below.alloc ?_ (by first | omega | (simp; done) | (simp; omega)) _))⟩
end Go.Proofs.Ytdpghhgfkhlliaa
