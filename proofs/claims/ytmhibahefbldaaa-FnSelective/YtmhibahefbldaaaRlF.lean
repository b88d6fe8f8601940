/-
What is proved: what is drawn for a feeder that is to be selective: relays, currents and a number.
-/
import Derived.Test.YtmhibahefbldaaaRlG
import Derived.Deep.RegionHeld3
import Derived.Deep.DeepCutAuto
namespace Go.Proofs.Ytmhibahefbldaaa
set_option maxRecDepth 40000
open Go.RowKit
set_option linter.unusedVariables false
set_option linter.unusedSimpArgs false

def DsPost (w : World) (e : Ending) (w' : World) : Prop := ∃ m t ct V ma ta ca A ap, e = .returned (.tuple #[.slice t m ct, .slice ta ma ca, .int .i64 ap]) ∧ m ≤ 30 ∧ m ≤ ct ∧ ma ≤ 40 ∧ RowI w' t (m * 2) V ∧ RowI w' ta ma A ∧ Below w.heap.size w w'
theorem dsp_of {w : World} {e : Ending} {w' : World} (m : Nat) (t : Option Addr) (ct : Nat) (V : Nat → Int) (ma : Nat) (ta : Option Addr) (ca : Nat) (A : Nat → Int) (ap : Int) (h0 : e = .returned (.tuple #[.slice t m ct, .slice ta ma ca, .int .i64 ap])) (h1 : m ≤ 30) (h2 : m ≤ ct) (h3 : ma ≤ 40) (h4 : RowI w' t (m * 2) V) (h5 : RowI w' ta ma A) (h6 : Below w.heap.size w w') : DsPost w e w' := ⟨m, t, ct, V, ma, ta, ca, A, ap, h0, h1, h2, h3, h4, h5, h6⟩
theorem drawn_own {r : Nat} {s : Option Addr} {n c : Nat} {w wr : World} {v : Value} {l : List Int} (h : Drawn r s n c w wr v l) : ∃ t cap, v = .slice t l.length cap ∧ OwnI w.heap.size wr t l.length (nthI l) := by
  have h1 := h.1
  rw [← vals_nth] at h1
  obtain ⟨s, cap, e, ho⟩ := own_OwnI (size := 1) (U := nthI l) (by rw [Nat.mul_one]; exact h1)
  rw [Nat.mul_one] at ho
  exact ⟨s, cap, e, ho⟩
set_option maxRecDepth 20000 in
set_option maxHeartbeats 16000000 in
theorem drawSelective_any {s : Option Addr} {n c : Nat} {w : World} (h : Hid (Code8 w s n)) : Calls Try.prog 20 #[.slice s n c] w fun e w' => DsPost w e w' := by
  go_enter Try.func20, Try.ntmps20
  go_wp2_with fail
  refine (open_any h.out).mono ?_
  rintro e w1 ⟨rfl, R1, B1⟩
  have HR1 : Hid (Rd w1 w.heap.size s n c 0) := R1
  have HB1 : Hid (Below w.heap.size w w1) := B1
  have zr : w.heap.size < w1.heap.size := R1.1
  clear R1 B1
  obtain ⟨r, hr⟩ : ∃ r, w.heap.size = r := ⟨_, rfl⟩
  have HRR : Hid (w.heap.size = r) := hr
  rw [hr] at HR1 zr ⊢
  clear hr
  go_wp2_with fail
  refine (feeder_any HR1.out).mono ?_
  rintro e w2 ⟨m, t, ct, V, p2, rfl, m30, mct, tg, RT, R2, b2⟩
  have zr2 : r < w2.heap.size := R2.1
  have HT : Hid (RowI w2 t (m * 2) V) := RT
  have TG : Hid (∀ g o, t = some ⟨g, o, none⟩ → g ≠ r) := fun g o e => by have := tg g o e; omega
  have HB2 : Hid (Below w.heap.size w w2) := by have e := HRR.out; exact HB1.out.trans (b2.below (by omega) HB1.out.size)
  have m31 : (m : Int) ≤ 30 := by omega
  have D0 : Hid (Drawn r s n c w2 (w2.alloc (.cells #[] 2)) (.slice (some ⟨w2.heap.size, 0, none⟩) 0 0) []) := ⟨by simpa [cellsOf] using World.ownsRow_lit (base := w2.heap.size) (size := 1) (e := 2) w2 #[] 0 (Nat.le_refl _) (by simp [maxLen]) (by simp), Beside.of (below0 w2 _), p2, Rd.below R2 (below0 w2 _)⟩
  clear RT R2 b2 tg HB1 HR1
  go_wp2_with fail
  go_loopw [7, 8] (fun va i wr => ∃ l : List Int, l.length ≤ m ∧ i = .int .i64 l.length ∧ Hid (Drawn r s n c w2 wr va l)) (fun _ i _ => m - (intOf i).toNat)
  case atStart => exact ⟨[], by simp, rfl, D0.out⟩
  case round =>
    obtain ⟨l, hl, rfl, HD⟩ := hrel
    clear D0
    by_cases hlt : l.length < m
    case pos =>
      have k1 : (l.length : Int) < (m : Int) := by omega
      obtain ⟨h1, hB, p3, R3⟩ := HD.out
      have HO : Hid (wr.ownsRow w2.heap.size 2 1 u7 l.length (cellsOf l)) := h1
      have HBs : Hid (Beside r w2 wr) := hB
      clear h1 hB
      go_wp2_with fail
      refine (upto_any 4000 (by decide) R3).mono ?_
      rintro e w3 ⟨y, p4, rfl, y0, y1, R4, b4⟩
      have y2 : y ≤ 4000 := by omega
      have HR4 : Hid (Rd w3 r s n c p4) := R4
      have Hb4 : Hid (Beside r wr w3) := b4
      have HO3 : Hid (w3.ownsRow w2.heap.size 2 1 u7 l.length (cellsOf l)) := drawn_read zr2 HO.out b4
      have z3 : w2.heap.size ≤ w3.heap.size := Nat.le_trans HBs.out.2.2.2.1 b4.2.2.2.1
      clear R3 R4 b4 y1
      go_wp2_with (at_builtin; refine list_i64 w2.heap.size u7 l.length (cellsOf l) (.tmp 20) (.tmp 24) (by rfl) (by rfl) (by rfl) (by rfl) HO3.out (by omega) (by omega) ?_; intro g' cap' w5 hown5 hgrow5 hlt5)
      go_roundw
      case rel => exact ⟨l ++ [400 + y], by simp; omega, (by simp; try go_num), drawn_on zr2 HO.out HBs.out Hb4.out HR4.out hown5 hgrow5⟩
      case measure => simp [intOf]; omega
    case neg =>
      obtain ⟨h1, hB, p3, R3⟩ := HD.out
      go_wp2_with fail
      refine (once_any 20 (by omega) (by omega) R3).mono ?_
      rintro e w3 ⟨b, p4, rfl, R4, b4⟩
      have l40 : l.length ≤ 30 := by omega
      have H3 : Hid (Drawn r s n c w2 w3 u7 l) := ⟨drawn_read zr2 h1 b4, hB.trans b4, p4, R4⟩
      clear h1 hB R3 R4 b4 HD hlt
      cases b
      case false =>
        obtain ⟨h1, hB, p5, R5⟩ := H3.out
        go_wp2_with fail
        refine (once_any 20 (by omega) (by omega) R5).mono ?_
        rintro e w6 ⟨b2, p6, rfl, R6, b6⟩
        have H6 : Hid (Drawn r s n c w2 w6 u7 l) := ⟨drawn_read zr2 h1 b6, hB.trans b6, p6, R6⟩
        have HR6 : Hid (Rd w6 r s n c p6) := R6
        clear h1 hB R5 R6 b6 H3
        obtain ⟨ta, ca, hv, ho⟩ := drawn_own H6.out
        have ll : (l).length ≤ 40 := by omega
        obtain ⟨ln, hln⟩ : ∃ ln, (l).length = ln := ⟨_, rfl⟩
        have HA : Hid (RowI w6 ta ln (nthI (l))) := hln ▸ ho.row
        have S6 : Hid (Beside r w2 w6) := H6.out.2.1
        have TA : Hid (∀ g o, ta = some ⟨g, o, none⟩ → 0 < ln → w2.heap.size ≤ g) := fun g o e hp => by
          obtain ⟨g', e', q, _⟩ := ho 0 (by omega)
          rw [e] at e'; cases e'; exact q
        have HO0 : Hid (0 < ln → ∃ g, ta = some ⟨g, 0, none⟩ ∧ w2.heap.size ≤ g ∧ g < w6.heap.size ∧ w6.cell? ⟨g, 0, none⟩ = some (.int .i64 (nthI (l) 0)) ∧ w6.frozen? ⟨g, 0, none⟩ = false) := fun hp => ho 0 (by omega)
        rw [hln] at ll hv
        subst hv
        clear ho H6 hln
        have ll2 : (ln : Int) ≤ 40 := by omega
        by_cases hz : b2 = true ∧ 0 < ln
        case pos =>
          obtain ⟨rfl, hp⟩ := hz
          obtain ⟨g, rfl, gB, gl, gc, gf⟩ := HO0.out hp
          have hp2 : (0 : Int) < (ln : Int) := by omega
          go_wp2_with fail
          refine (off_any 0 1000000 (by omega) (by omega) (by omega) HR6.out).mono ?_
          rintro e w7 ⟨a, p7, rfl, wa, R7, b7⟩
          have HR7 : Hid (Rd w7 r s n c p7) := R7
          have HA7 : Hid (RowI w7 (some ⟨g, 0, none⟩) ln _) := HA.out.beside b7 (by intro g o e; cases e; omega)
          have S7 : Hid (Beside r w2 w7) := S6.out.trans b7
          have gc7 := (b7.cell (p := ⟨g, 0, none⟩) gl (by simp only; omega)).trans gc
          have gf7 := (b7.frozen (p := ⟨g, 0, none⟩) gl (by simp only; omega)).trans gf
          have gl7 : g < w7.heap.size := Nat.lt_of_lt_of_le gl b7.2.2.2.1
          clear R7 b7 HA S6 gc gf gl HR6
          go_wp2_with fail
          refine (off_any 0 300 (by omega) (by omega) (by omega) (Rd.below' HR7.out (show Below (r + 1) w7 _ from (by repeat (first | with_reducible exact Below.refl _ _ | with_reducible refine Below.setCell ?_ (by first | omega | (simp; done) | (simp; omega)) _ | with_reducible refine bDrewN ?_ _ | with_reducible refine Below.drew ?_ | with_reducible refine Below.alloc ?_ (by first | omega | (simp; done) | (simp; omega)) _))))).mono ?_
          rintro e w8 ⟨ap, p8, rfl, wap, R8, b8⟩
          have S8 : Hid (Beside r w2 w8) := (S7.out.fresh gB _).trans b8
          have HA8 : Hid (RowI w8 (some ⟨g, 0, none⟩) ln _) := (row_at HA7.out).beside b8 (by intro g o e; cases e; omega)
          clear R8 b8
          go_wp2
          exact bodyPost_ret (v := .tuple #[.slice t m ct, .slice (some ⟨g, 0, none⟩) ln ca, .int .i64 ap]) (by simp [results, Try.results20, go_sem]) rfl (dsp_of m t ct V ln _ ca _ ap rfl m30 mct ll (HT.out.beside S8.out TG.out) HA8.out (by have e := HRR.out; exact HB2.out.trans (S8.out.below (by omega) HB2.out.size)))
        case neg =>
          have hz2 : (b2 && decide ((0 : Int) < (ln : Int))) = false := by
            cases b2
            · rfl
            · have : ¬ 0 < ln := fun q => hz ⟨rfl, q⟩
              simp; omega
          clear HO0
          have TB : Hid (∀ w8, Beside r w6 w8 → RowI w8 ta ln (nthI (l))) := fun w8 b j hj => (HA.out.beside b (by intro g o e; have := TA.out g o e (by omega); omega)) j hj
          have fin : ∀ w8, Beside r w6 w8 → RowI w8 t (m * 2) V ∧ RowI w8 ta ln (nthI (l)) ∧ Below w.heap.size w w8 := fun w8 b => ⟨HT.out.beside (S6.out.trans b) TG.out, TB.out w8 b, by have e := HRR.out; exact HB2.out.trans ((S6.out.trans b).below (by omega) HB2.out.size)⟩
          have HF : Hid (∀ w8, Beside r w6 w8 → RowI w8 t (m * 2) V ∧ RowI w8 ta ln (nthI (l)) ∧ Below w.heap.size w w8) := fin
          clear fin TB hz
          cases b2
          all_goals
            (try (have z0 : ¬ (0 : Int) < (ln : Int) := by simpa using hz2))
            (try (have z1 : decide ((0 : Int) < (ln : Int)) = false := decide_eq_false z0))
            go_wp2_with fail
            refine (off_any 0 300 (by omega) (by omega) (by omega) HR6.out).mono ?_
            rintro e w8 ⟨ap, p8, rfl, wap, R8, b8⟩
            have F8 : Hid _ := HF.out w8 b8
            clear R8 b8
            go_wp2
            exact bodyPost_ret (v := .tuple #[.slice t m ct, .slice ta ln ca, .int .i64 ap]) (by simp [results, Try.results20, go_sem]) rfl (dsp_of m t ct V ln ta ca _ ap rfl m30 mct ll F8.out.1 F8.out.2.1 F8.out.2.2)
      case true =>
        have HO3 : Hid (w3.ownsRow w2.heap.size 2 1 u7 l.length (cellsOf l)) := H3.out.1
        have z3 : w2.heap.size ≤ w3.heap.size := H3.out.2.1.2.2.2.1
        go_upto_region 10 with (at_builtin; refine list_i64 w2.heap.size u7 l.length (cellsOf l) (.tmp 28) (.tmp 29) (by rfl) (by rfl) (by rfl) (by rfl) HO3.out (by omega) (by omega) ?_; intro g' cap' w5 hown5 hgrow5 hlt5)
        obtain ⟨hX, hB3, p33, R33⟩ := H3.out
        have D5 : Hid (Drawn r s n c w2 w5 (.slice (some ⟨g', 0, none⟩) (l.length + 1) cap') (l ++ [9])) := drawn_on zr2 hX hB3 (Beside.of (Below.refl _ _)) R33 hown5 hgrow5
        clear hX hB3 R33 hown5 hgrow5 H3 HO3
        obtain ⟨vv, hvv⟩ : ∃ vv, Value.slice (some ⟨g', 0, none⟩) (l.length + 1) cap' = vv := ⟨_, rfl⟩
        rw [hvv] at D5 ⊢
        clear hvv
        obtain ⟨h1, hB, p5, R5⟩ := D5.out
        go_wp2_with fail
        refine (once_any 20 (by omega) (by omega) R5).mono ?_
        rintro e w6 ⟨b2, p6, rfl, R6, b6⟩
        have H6 : Hid (Drawn r s n c w2 w6 vv (l ++ [9])) := ⟨drawn_read zr2 h1 b6, hB.trans b6, p6, R6⟩
        have HR6 : Hid (Rd w6 r s n c p6) := R6
        clear h1 hB R5 R6 b6 D5
        obtain ⟨ta, ca, hv, ho⟩ := drawn_own H6.out
        have ll : ((l ++ [9])).length ≤ 40 := by simp; omega
        obtain ⟨ln, hln⟩ : ∃ ln, ((l ++ [9])).length = ln := ⟨_, rfl⟩
        have HA : Hid (RowI w6 ta ln (nthI ((l ++ [9])))) := hln ▸ ho.row
        have S6 : Hid (Beside r w2 w6) := H6.out.2.1
        have TA : Hid (∀ g o, ta = some ⟨g, o, none⟩ → 0 < ln → w2.heap.size ≤ g) := fun g o e hp => by
          obtain ⟨g', e', q, _⟩ := ho 0 (by omega)
          rw [e] at e'; cases e'; exact q
        have HO0 : Hid (0 < ln → ∃ g, ta = some ⟨g, 0, none⟩ ∧ w2.heap.size ≤ g ∧ g < w6.heap.size ∧ w6.cell? ⟨g, 0, none⟩ = some (.int .i64 (nthI ((l ++ [9])) 0)) ∧ w6.frozen? ⟨g, 0, none⟩ = false) := fun hp => ho 0 (by omega)
        rw [hln] at ll hv
        subst hv
        clear ho H6 hln
        have ll2 : (ln : Int) ≤ 40 := by omega
        by_cases hz : b2 = true ∧ 0 < ln
        case pos =>
          obtain ⟨rfl, hp⟩ := hz
          obtain ⟨g, rfl, gB, gl, gc, gf⟩ := HO0.out hp
          have hp2 : (0 : Int) < (ln : Int) := by omega
          go_wp2_with fail
          refine (off_any 0 1000000 (by omega) (by omega) (by omega) HR6.out).mono ?_
          rintro e w7 ⟨a, p7, rfl, wa, R7, b7⟩
          have HR7 : Hid (Rd w7 r s n c p7) := R7
          have HA7 : Hid (RowI w7 (some ⟨g, 0, none⟩) ln _) := HA.out.beside b7 (by intro g o e; cases e; omega)
          have S7 : Hid (Beside r w2 w7) := S6.out.trans b7
          have gc7 := (b7.cell (p := ⟨g, 0, none⟩) gl (by simp only; omega)).trans gc
          have gf7 := (b7.frozen (p := ⟨g, 0, none⟩) gl (by simp only; omega)).trans gf
          have gl7 : g < w7.heap.size := Nat.lt_of_lt_of_le gl b7.2.2.2.1
          clear R7 b7 HA S6 gc gf gl HR6
          go_wp2_with fail
          refine (off_any 0 300 (by omega) (by omega) (by omega) (Rd.below' HR7.out (show Below (r + 1) w7 _ from (by repeat (first | with_reducible exact Below.refl _ _ | with_reducible refine Below.setCell ?_ (by first | omega | (simp; done) | (simp; omega)) _ | with_reducible refine bDrewN ?_ _ | with_reducible refine Below.drew ?_ | with_reducible refine Below.alloc ?_ (by first | omega | (simp; done) | (simp; omega)) _))))).mono ?_
          rintro e w8 ⟨ap, p8, rfl, wap, R8, b8⟩
          have S8 : Hid (Beside r w2 w8) := (S7.out.fresh gB _).trans b8
          have HA8 : Hid (RowI w8 (some ⟨g, 0, none⟩) ln _) := (row_at HA7.out).beside b8 (by intro g o e; cases e; omega)
          clear R8 b8
          go_wp2
          exact bodyPost_ret (v := .tuple #[.slice t m ct, .slice (some ⟨g, 0, none⟩) ln ca, .int .i64 ap]) (by simp [results, Try.results20, go_sem]) rfl (dsp_of m t ct V ln _ ca _ ap rfl m30 mct ll (HT.out.beside S8.out TG.out) HA8.out (by have e := HRR.out; exact HB2.out.trans (S8.out.below (by omega) HB2.out.size)))
        case neg =>
          have hz2 : (b2 && decide ((0 : Int) < (ln : Int))) = false := by
            cases b2
            · rfl
            · have : ¬ 0 < ln := fun q => hz ⟨rfl, q⟩
              simp; omega
          clear HO0
          have TB : Hid (∀ w8, Beside r w6 w8 → RowI w8 ta ln (nthI ((l ++ [9])))) := fun w8 b j hj => (HA.out.beside b (by intro g o e; have := TA.out g o e (by omega); omega)) j hj
          have fin : ∀ w8, Beside r w6 w8 → RowI w8 t (m * 2) V ∧ RowI w8 ta ln (nthI ((l ++ [9]))) ∧ Below w.heap.size w w8 := fun w8 b => ⟨HT.out.beside (S6.out.trans b) TG.out, TB.out w8 b, by have e := HRR.out; exact HB2.out.trans ((S6.out.trans b).below (by omega) HB2.out.size)⟩
          have HF : Hid (∀ w8, Beside r w6 w8 → RowI w8 t (m * 2) V ∧ RowI w8 ta ln (nthI ((l ++ [9]))) ∧ Below w.heap.size w w8) := fin
          clear fin TB hz
          cases b2
          all_goals
            (try (have z0 : ¬ (0 : Int) < (ln : Int) := by simpa using hz2))
            (try (have z1 : decide ((0 : Int) < (ln : Int)) = false := decide_eq_false z0))
            go_wp2_with fail
            refine (off_any 0 300 (by omega) (by omega) (by omega) HR6.out).mono ?_
            rintro e w8 ⟨ap, p8, rfl, wap, R8, b8⟩
            have F8 : Hid _ := HF.out w8 b8
            clear R8 b8
            go_wp2
            exact bodyPost_ret (v := .tuple #[.slice t m ct, .slice ta ln ca, .int .i64 ap]) (by simp [results, Try.results20, go_sem]) rfl (dsp_of m t ct V ln ta ca _ ap rfl m30 mct ll F8.out.1 F8.out.2.1 F8.out.2.2)
end Go.Proofs.Ytmhibahefbldaaa
