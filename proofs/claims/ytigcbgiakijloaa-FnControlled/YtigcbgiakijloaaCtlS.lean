/-
What is proved: the specification's control of a drum.
-/
import Derived.Test.YtigcbgiakijloaaCtl
import Derived.Deep.QuietTactic
import Derived.BigQuiet
namespace Go.Proofs.Ytigcbgiakijloaa
set_option maxRecDepth 40000
open Go.RowKit
set_option linter.unusedVariables false

theorem ctl_noS {x : T7} {L : Int} {F D : Nat → Int} {k : Nat} {y : T7} {f : Int} (hy : y = ctlT x L F D k) (hf : inS (D k) → f = feedV y L (D k)) (hv : okT y f (F k) (D k) = false) : ctlOk x L F D k = false := by
  cases q : ctlOk x L F D k
  · rfl
  · unfold ctlOk feedK at q
    rw [← hy] at q
    rw [hf (ok_act q).2.2, q] at hv
    cases hv
theorem ctl_no1 {x : T7} {L : Int} {F D : Nat → Int} {k : Nat} (hv : actB 0 (F k) (D k) = false) : ctlOk x L F D k = false := by
  cases q : ctlOk x L F D k
  · rfl
  · have a := ok_act q
    have : actB 0 (F k) (D k) = true := by unfold actB; exact decide_eq_true ⟨⟨by omega, by omega⟩, a.2⟩
    rw [hv] at this
    cases this
set_option maxRecDepth 20000 in
set_option maxHeartbeats 1200000 in
theorem specCtl_in (x0 x1 x2 x3 x4 x5 x6 L : Int) (s : Option Addr) (n c nd : Nat) (F : Nat → Int) (sd : Option Addr) (cd : Nat) (D : Nat → Int) (w : World) (hnd : n = nd) (hn : (n : Int) ≤ 500) (l0 : 0 ≤ L) (l1 : L ≤ 1000000000000) (HR : Hid (RowI w s n F)) (HD : Hid (RowI w sd n D)) (HG : Hid (drumT (x0, x1, x2, x3, x4, x5, x6) = true))
    (K : Hid (∀ w, Calls Try.prog 32 #[.agg #[.int .i64 x0, .int .i64 x1, .int .i64 x2, .int .i64 x3, .int .i64 x4, .int .i64 x5, .int .i64 x6]] w fun e w' => e = .returned (.bool true) ∧ Below w.heap.size w w'))
    (FF : Hid (∀ x0 x1 x2 x3 x4 x5 x6 w, Calls Try.prog 37 #[.agg #[.int .i64 x0, .int .i64 x1, .int .i64 x2, .int .i64 x3, .int .i64 x4, .int .i64 x5, .int .i64 x6]] w fun e w' => e = .returned (.int .i64 (levelV x0 x1 x2 x3 x4 x5 x6)) ∧ Below w.heap.size w w'))
    (T : Hid (∀ x0 x1 x2 x3 x4 x5 x6 fe fi dr w, Calls Try.prog 15 #[.agg #[.int .i64 x0, .int .i64 x1, .int .i64 x2, .int .i64 x3, .int .i64 x4, .int .i64 x5, .int .i64 x6], .int .i64 fe, .int .i64 fi, .int .i64 dr] w fun e w' => e = .returned (.tuple #[stepV x0 x1 x2 x3 x4 x5 x6 fe fi dr, .bool (stepOk x0 x1 x2 x3 x4 x5 x6 fe fi dr)]) ∧ Below w.heap.size w w')) :
    Calls Try.prog 13 #[.agg #[.int .i64 x0, .int .i64 x1, .int .i64 x2, .int .i64 x3, .int .i64 x4, .int .i64 x5, .int .i64 x6], .int .i64 L, .slice s n c, .slice sd nd cd] w fun e w' => ∃ m y b s' c', CtlV (x0, x1, x2, x3, x4, x5, x6) L n nd F D m y b ∧ e = .returned (.tuple #[.slice s' m c', valT y, .bool b]) ∧ OwnI w.heap.size w' s' m (feedK (x0, x1, x2, x3, x4, x5, x6) L F D) ∧ Below w.heap.size w w' := by
  have GO : Hid (goC (x0, x1, x2, x3, x4, x5, x6) L n nd) := ⟨HG.out, l0, l1, hnd, by omega⟩
  subst hnd
  go_enter Try.func13, Try.ntmps13
  go_wp2_with fail
  refine (K.out _).mono ?_
  rintro r w1 ⟨rfl, hr⟩
  have z1 : w.heap.size + 1 < w1.heap.size := by have := hr.size; simp at this; omega
  have z1a : w.heap.size < w1.heap.size := by omega
  have q0 : w1.cell? ⟨w.heap.size, 0, none⟩ = some (.int .i64 x0) := by rw [hr.cell (by first | omega | (simp; done) | (simp; omega))]; first | (simp; done) | (simp [go_sem]; done)
  have q1 : w1.cell? ⟨w.heap.size, 1, none⟩ = some (.int .i64 x1) := by rw [hr.cell (by first | omega | (simp; done) | (simp; omega))]; first | (simp; done) | (simp [go_sem]; done)
  have q2 : w1.cell? ⟨w.heap.size, 2, none⟩ = some (.int .i64 x2) := by rw [hr.cell (by first | omega | (simp; done) | (simp; omega))]; first | (simp; done) | (simp [go_sem]; done)
  have q3 : w1.cell? ⟨w.heap.size, 3, none⟩ = some (.int .i64 x3) := by rw [hr.cell (by first | omega | (simp; done) | (simp; omega))]; first | (simp; done) | (simp [go_sem]; done)
  have q4 : w1.cell? ⟨w.heap.size, 4, none⟩ = some (.int .i64 x4) := by rw [hr.cell (by first | omega | (simp; done) | (simp; omega))]; first | (simp; done) | (simp [go_sem]; done)
  have q5 : w1.cell? ⟨w.heap.size, 5, none⟩ = some (.int .i64 x5) := by rw [hr.cell (by first | omega | (simp; done) | (simp; omega))]; first | (simp; done) | (simp [go_sem]; done)
  have q6 : w1.cell? ⟨w.heap.size, 6, none⟩ = some (.int .i64 x6) := by rw [hr.cell (by first | omega | (simp; done) | (simp; omega))]; first | (simp; done) | (simp [go_sem]; done)
  have r0 : w1.cell? ⟨w.heap.size + 1, 0, none⟩ = some (.int .i64 0) := by rw [hr.cell (by first | omega | (simp; done) | (simp; omega))]; first | (simp; done) | (simp [go_sem]; done)
  have r1 : w1.cell? ⟨w.heap.size + 1, 1, none⟩ = some (.int .i64 0) := by rw [hr.cell (by first | omega | (simp; done) | (simp; omega))]; first | (simp; done) | (simp [go_sem]; done)
  have r2 : w1.cell? ⟨w.heap.size + 1, 2, none⟩ = some (.int .i64 0) := by rw [hr.cell (by first | omega | (simp; done) | (simp; omega))]; first | (simp; done) | (simp [go_sem]; done)
  have r3 : w1.cell? ⟨w.heap.size + 1, 3, none⟩ = some (.int .i64 0) := by rw [hr.cell (by first | omega | (simp; done) | (simp; omega))]; first | (simp; done) | (simp [go_sem]; done)
  have r4 : w1.cell? ⟨w.heap.size + 1, 4, none⟩ = some (.int .i64 0) := by rw [hr.cell (by first | omega | (simp; done) | (simp; omega))]; first | (simp; done) | (simp [go_sem]; done)
  have r5 : w1.cell? ⟨w.heap.size + 1, 5, none⟩ = some (.int .i64 0) := by rw [hr.cell (by first | omega | (simp; done) | (simp; omega))]; first | (simp; done) | (simp [go_sem]; done)
  have r6 : w1.cell? ⟨w.heap.size + 1, 6, none⟩ = some (.int .i64 0) := by rw [hr.cell (by first | omega | (simp; done) | (simp; omega))]; first | (simp; done) | (simp [go_sem]; done)
  have fz : ∀ o, w1.frozen? ⟨w.heap.size, o, none⟩ = false := fun o => by rw [hr.frozen (by first | omega | (simp; done) | (simp; omega))]; simp [go_sem]
  have fy : ∀ o, w1.frozen? ⟨w.heap.size + 1, o, none⟩ = false := fun o => by rw [hr.frozen (by first | omega | (simp; done) | (simp; omega))]; simp [go_sem]
  have B1 : Below w.heap.size w w1 := Below.trans (by repeat (first | with_reducible exact Below.refl _ _ | with_reducible refine Below.setCell ?_ (by first | omega | (simp; done) | (simp; omega)) _ | with_reducible refine bDrewN ?_ _ | with_reducible refine Below.drew ?_ | with_reducible refine Below.alloc ?_ (by first | omega | (simp; done) | (simp; omega)) _)) (hr.mono (by first | omega | (simp; done) | (simp; omega)))
  clear hr
  have D1 : Hid (DrumAt w1 w.heap.size x0 x1 x2 x3 x4 x5 x6) := ⟨z1a, fz, q0, q1, q2, q3, q4, q5, q6⟩
  have RZ : Hid (∀ wr, Beside w.heap.size w1 wr → (∀ o, wr.frozen? ⟨w.heap.size + 1, o, none⟩ = false) ∧ Keep7 (w.heap.size + 1) 0 0 0 0 0 0 0 wr) := fun wr hs => ⟨fun o => (hs.frozen (p := ⟨w.heap.size + 1, o, none⟩) z1 (by simp)).trans (fy o), (hs.cell (p := ⟨w.heap.size + 1, 0, none⟩) z1 (by simp)).trans r0, (hs.cell (p := ⟨w.heap.size + 1, 1, none⟩) z1 (by simp)).trans r1, (hs.cell (p := ⟨w.heap.size + 1, 2, none⟩) z1 (by simp)).trans r2, (hs.cell (p := ⟨w.heap.size + 1, 3, none⟩) z1 (by simp)).trans r3, (hs.cell (p := ⟨w.heap.size + 1, 4, none⟩) z1 (by simp)).trans r4, (hs.cell (p := ⟨w.heap.size + 1, 5, none⟩) z1 (by simp)).trans r5, (hs.cell (p := ⟨w.heap.size + 1, 6, none⟩) z1 (by simp)).trans r6⟩
  have ROW : Hid (∀ wr, Beside w.heap.size w1 wr → ∀ s V, RowI w s n V → RowI wr s n V ∧ ∀ j, j < n → ∃ b o, s = some ⟨b, o, none⟩ ∧ b < w.heap.size) := fun wr hs s V HR => by
    refine ⟨fun j hj => ?_, fun j hj => ?_⟩
    · obtain ⟨b, o, e, hl, hc⟩ := HR j hj
      have hl1 : b < w1.heap.size := Nat.lt_of_lt_of_le hl B1.size
      exact ⟨b, o, e, Nat.lt_of_lt_of_le hl1 hs.2.2.2.1, (hs.cell (p := ⟨b, o + j, none⟩) hl1 (by show b ≠ w.heap.size; omega)).trans ((B1.cell (p := ⟨b, o + j, none⟩) hl).trans hc)⟩
    · obtain ⟨b, o, e, hl, hc⟩ := HR j hj
      exact ⟨b, o, e, hl⟩
  clear q0 q1 q2 q3 q4 q5 q6 r0 r1 r2 r3 r4 r5 r6 fz fy
  go_wp2_with fail
  refine (l1In_yes _ _ _ _ l0 l1).mono ?_
  rintro e w1 ⟨rfl, rfl⟩
  go_wp2_with fail
  go_loopw [12, 13] (fun v i wr => ∃ k : Nat, ∃ y : T7, k ≤ n ∧ i = .int .i64 k ∧ CtlAt w.heap.size w1 wr v k (feedK (x0, x1, x2, x3, x4, x5, x6) L F D) y.1 y.2.1 y.2.2.1 y.2.2.2.1 y.2.2.2.2.1 y.2.2.2.2.2.1 y.2.2.2.2.2.2 ∧ y = ctlT (x0, x1, x2, x3, x4, x5, x6) L F D k ∧ ∀ j, j < k → ctlOk (x0, x1, x2, x3, x4, x5, x6) L F D j = true) (fun _ i _ => n - (intOf i).toNat)
  case atStart => exact ⟨0, (x0, x1, x2, x3, x4, x5, x6), Nat.zero_le _, rfl, ⟨Beside.of ((Below.refl _ _).alloc (Nat.le_refl _) _), D1.out.below ((Below.refl _ _).alloc (Nat.le_refl _) _), by simpa [vals] using World.ownsRow_lit (base := w1.heap.size) (size := 1) (e := 2) w1 #[] 0 (Nat.le_refl _) (by simp [maxLen]) (by simp)⟩, rfl, fun j hj => by omega⟩
  case round =>
    obtain ⟨k, ⟨y0, y1, y2, y3, y4, y5, y6⟩, hk, rfl, hA, hy, hok⟩ := hrel
    have HY : Hid ((y0, y1, y2, y3, y4, y5, y6) = ctlT (x0, x1, x2, x3, x4, x5, x6) L F D k) := hy
    have HO : Hid (∀ j, j < k → ctlOk (x0, x1, x2, x3, x4, x5, x6) L F D j = true) := hok
    have HA : Hid (CtlAt w.heap.size w1 wr u12 k (feedK (x0, x1, x2, x3, x4, x5, x6) L F D) y0 y1 y2 y3 y4 y5 y6) := hA
    clear hy hok
    obtain ⟨hS, hD, -⟩ := hA
    simp only at hD
    obtain ⟨zp, zf, c0, c1, c2, c3, c4, c5, c6⟩ := hD
    obtain ⟨gf, t0, t1, t2, t3, t4, t5, t6⟩ := RZ.out wr hS
    have zr : w.heap.size + 1 < wr.heap.size := Nat.lt_of_lt_of_le z1 hS.2.2.2.1
    by_cases h1 : k < n
    · obtain ⟨RW, SB⟩ := ROW.out wr hS s F HR.out
      obtain ⟨RW2, SB2⟩ := ROW.out wr hS sd D HD.out
      obtain ⟨g, o, rfl, hg, a0⟩ := RW k h1
      obtain ⟨gd, od, rfl, hgd, b0⟩ := RW2 k h1
      obtain ⟨g', o', e', hgw⟩ := SB k h1
      cases e'
      obtain ⟨g', o', e', hgw2⟩ := SB2 k h1
      cases e'
      have k1 : (k : Int) < (n : Int) := by omega
      have HN : Hid (k < n) := h1
      clear RW SB RW2 SB2 hS
      obtain ⟨f, hf⟩ : ∃ f, feedV (y0, y1, y2, y3, y4, y5, y6) L (D k) = f := ⟨_, rfl⟩
      obtain ⟨lv, hlv⟩ : ∃ lv, levelV y0 y1 y2 y3 y4 y5 y6 = lv := ⟨_, rfl⟩
      obtain ⟨lb0, lb1⟩ := level_bd y0 y1 y2 y3 y4 y5 y6
      rw [hlv] at lb0 lb1
      obtain ⟨ac, hac⟩ : ∃ ac, actB 0 (F k) (D k) = ac := ⟨_, rfl⟩
      have AC : Hid (∀ w, Calls Try.prog 36 #[.int .i64 0, .int .i64 (F k), .int .i64 (D k)] w fun e w' => e = .returned (.bool ac) ∧ w' = w) := fun w => hac ▸ l4Act_any 0 (F k) (D k) w
      have FG : Hid (∀ w, Calls Try.prog 37 #[.agg #[.int .i64 y0, .int .i64 y1, .int .i64 y2, .int .i64 y3, .int .i64 y4, .int .i64 y5, .int .i64 y6]] w fun e w' => e = .returned (.int .i64 lv) ∧ Below w.heap.size w w') := fun w => hlv ▸ FF.out y0 y1 y2 y3 y4 y5 y6 w
      have HL : Hid (levelV y0 y1 y2 y3 y4 y5 y6 = lv) := hlv
      have HC : Hid (actB 0 (F k) (D k) = ac) := hac
      have HF : Hid _ := hf
      clear hf hlv hac
      go_wp2_with fail
      go_cut [56] (fun q wx => q = .bool (!ac) ∧ Below wr.heap.size wr wx)
      case first =>
        go_region_held3 (fun w' => w'.cell? ⟨w.heap.size, 0, none⟩ = some (.int .i64 y0) ∧ w'.cell? ⟨w.heap.size, 1, none⟩ = some (.int .i64 y1) ∧ w'.cell? ⟨w.heap.size, 2, none⟩ = some (.int .i64 y2) ∧ w'.cell? ⟨w.heap.size, 3, none⟩ = some (.int .i64 y3) ∧ w'.cell? ⟨w.heap.size, 4, none⟩ = some (.int .i64 y4) ∧ w'.cell? ⟨w.heap.size, 5, none⟩ = some (.int .i64 y5) ∧ w'.cell? ⟨w.heap.size, 6, none⟩ = some (.int .i64 y6) ∧ w'.cell? ⟨g, o + k, none⟩ = some (.int .i64 (F k)) ∧ w'.cell? ⟨gd, od + k, none⟩ = some (.int .i64 (D k))) (first | (refine keepB c0 c1 c2 c3 c4 c5 c6 a0 b0 zp hg hgd ?_; exact (by repeat (first | with_reducible exact Below.refl _ _ | with_reducible exact B3 | with_reducible refine Below.setCell ?_ (by first | omega | (simp; done) | (simp; omega)) _ | with_reducible refine bDrewN ?_ _ | with_reducible refine Below.drew ?_ | with_reducible refine Below.alloc ?_ (by first | omega | (simp; done) | (simp; omega)) _)))) (first
          | (go_at_call 36; refine (AC.out _).mono ?_; rintro r w3 ⟨rfl, rfl⟩; have B3 : Below wr.heap.size wr wr := Below.refl _ _))
        all_goals
          go_wp2_with fail
          go_meet
          case rel => exact ⟨rfl, (by repeat (first | with_reducible exact Below.refl _ _ | with_reducible refine Below.setCell ?_ (by first | omega | (simp; done) | (simp; omega)) _ | with_reducible refine bDrewN ?_ _ | with_reducible refine Below.drew ?_ | with_reducible refine Below.alloc ?_ (by first | omega | (simp; done) | (simp; omega)) _))⟩
      case rest =>
      obtain ⟨rfl, hB⟩ := hcut
      rename World => wq
      have HA2 : Hid (CtlAt w.heap.size w1 wq u12 k (feedK (x0, x1, x2, x3, x4, x5, x6) L F D) y0 y1 y2 y3 y4 y5 y6) := HA.out.below hB
      have a0q : wq.cell? ⟨g, o + k, none⟩ = some (.int .i64 (F k)) := (hB.cell (p := ⟨g, o + k, none⟩) hg).trans a0
      have b0q : wq.cell? ⟨gd, od + k, none⟩ = some (.int .i64 (D k)) := (hB.cell (p := ⟨gd, od + k, none⟩) hgd).trans b0
      have hgq : g < wq.heap.size := Nat.lt_of_lt_of_le hg hB.size
      have hgdq : gd < wq.heap.size := Nat.lt_of_lt_of_le hgd hB.size
      clear c0 c1 c2 c3 c4 c5 c6 a0 b0 zp zf gf t0 t1 t2 t3 t4 t5 t6 zr hg hgd
      have a0 := a0q
      have b0 := b0q
      have hg := hgq
      have hgd := hgdq
      clear a0q b0q hgq hgdq
      obtain ⟨hS, hD, -⟩ := HA2.out
      obtain ⟨zp, zf, c0, c1, c2, c3, c4, c5, c6⟩ := hD
      obtain ⟨gf, t0, t1, t2, t3, t4, t5, t6⟩ := RZ.out wq hS
      have zr : w.heap.size + 1 < wq.heap.size := Nat.lt_of_lt_of_le z1 hS.2.2.2.1
      have BQ : Below w.heap.size w wq := B1.trans (hS.below (Nat.le_refl _) (by omega))
      clear hS hB
      cases ac
      · have NO : Hid (ctlOk (x0, x1, x2, x3, x4, x5, x6) L F D k = false) := ctl_no1 HC.out
        go_wp2
        refine bodyPost_ret (v := .tuple #[.slice (some ⟨w.heap.size + 1 + 1, 0, none⟩) 0 0, drum0, .bool false]) (by simp [results, Try.results13, go_sem, t0, t1, t2, t3, t4, t5, t6, drum0]) rfl ⟨0, (0, 0, 0, 0, 0, 0, 0), false, _, _, .inr ⟨rfl, rfl, rfl, fun q => by have := q.2 k HN.out; rw [NO.out] at this; cases this⟩, rfl, fun j hj => by omega, ?_⟩
        exact (by repeat (first | with_reducible exact Below.refl _ _ | with_reducible exact BQ | with_reducible refine Below.setCell ?_ (by first | omega | (simp; done) | (simp; omega)) _ | with_reducible refine bDrewN ?_ _ | with_reducible refine Below.drew ?_ | with_reducible refine Below.alloc ?_ (by first | omega | (simp; done) | (simp; omega)) _))
      obtain ⟨-, -, d0, d1⟩ := of_decide_eq_true HC.out
      obtain ⟨p1, e1⟩ : ∃ p1, (if L - lv + D k < 1000000 then L - lv + D k else 1000000) = p1 := ⟨_, rfl⟩
      have e2 : (if 0 < p1 then p1 else 0) = f := by
        rw [← HF.out]
        show _ = max 0 (min 1000000 (L - levelV y0 y1 y2 y3 y4 y5 y6 + D k))
        rw [HL.out, ← e1]
        split <;> split <;> omega
      have hw1 : IntKind.i64.wrap (L - lv) = L - lv := by rw [IntKind.wrap_i64]; omega
      have hw2 : IntKind.i64.wrap (L - lv + D k) = L - lv + D k := by rw [IntKind.wrap_i64]; omega
      go_wp2_with fail
      go_cut [14] (fun q wx => q = .int .i64 f ∧ Below wq.heap.size wq wx)
      case first =>
        go_region_held3 (fun w' => w'.cell? ⟨w.heap.size, 0, none⟩ = some (.int .i64 y0) ∧ w'.cell? ⟨w.heap.size, 1, none⟩ = some (.int .i64 y1) ∧ w'.cell? ⟨w.heap.size, 2, none⟩ = some (.int .i64 y2) ∧ w'.cell? ⟨w.heap.size, 3, none⟩ = some (.int .i64 y3) ∧ w'.cell? ⟨w.heap.size, 4, none⟩ = some (.int .i64 y4) ∧ w'.cell? ⟨w.heap.size, 5, none⟩ = some (.int .i64 y5) ∧ w'.cell? ⟨w.heap.size, 6, none⟩ = some (.int .i64 y6) ∧ w'.cell? ⟨g, o + k, none⟩ = some (.int .i64 (F k)) ∧ w'.cell? ⟨gd, od + k, none⟩ = some (.int .i64 (D k))) (first | (refine keepB c0 c1 c2 c3 c4 c5 c6 a0 b0 zp hg hgd ?_; exact (by repeat (first | with_reducible exact Below.refl _ _ | with_reducible exact B3 | with_reducible refine Below.setCell ?_ (by first | omega | (simp; done) | (simp; omega)) _ | with_reducible refine bDrewN ?_ _ | with_reducible refine Below.drew ?_ | with_reducible refine Below.alloc ?_ (by first | omega | (simp; done) | (simp; omega)) _)))) (first
          | (go_at_call 37; refine (FG.out _).mono ?_; rintro r w3 ⟨rfl, h3⟩; have B3 : Below wq.heap.size wq w3 := Below.trans (by repeat (first | with_reducible exact Below.refl _ _ | with_reducible refine Below.setCell ?_ (by first | omega | (simp; done) | (simp; omega)) _ | with_reducible refine bDrewN ?_ _ | with_reducible refine Below.drew ?_ | with_reducible refine Below.alloc ?_ (by first | omega | (simp; done) | (simp; omega)) _)) (h3.mono (by first | omega | (simp; done) | (simp; omega)))))
        all_goals
          go_wp2_with fail
          go_meet
          case rel => exact ⟨rfl, (by repeat (first | with_reducible exact Below.refl _ _ | with_reducible exact B3 | with_reducible refine Below.setCell ?_ (by first | omega | (simp; done) | (simp; omega)) _ | with_reducible refine bDrewN ?_ _ | with_reducible refine Below.drew ?_ | with_reducible refine Below.alloc ?_ (by first | omega | (simp; done) | (simp; omega)) _))⟩
      case rest =>
      obtain ⟨rfl, hB⟩ := hcut
      rename World => wa
      have BA : Hid (CtlAt w.heap.size w1 wa u12 k (feedK (x0, x1, x2, x3, x4, x5, x6) L F D) y0 y1 y2 y3 y4 y5 y6) := HA2.out.below hB
      have a0' : wa.cell? ⟨g, o + k, none⟩ = some (.int .i64 (F k)) := (hB.cell (p := ⟨g, o + k, none⟩) hg).trans a0
      have b0' : wa.cell? ⟨gd, od + k, none⟩ = some (.int .i64 (D k)) := (hB.cell (p := ⟨gd, od + k, none⟩) hgd).trans b0
      have zg : g < wa.heap.size := Nat.lt_of_lt_of_le hg hB.size
      have zgd : gd < wa.heap.size := Nat.lt_of_lt_of_le hgd hB.size
      clear c0 c1 c2 c3 c4 c5 c6 a0 b0 zp zf gf t0 t1 t2 t3 t4 t5 t6 zr hg hgd
      obtain ⟨hS, hD, -⟩ := BA.out
      obtain ⟨zp, zf, c0, c1, c2, c3, c4, c5, c6⟩ := hD
      obtain ⟨gf, t0, t1, t2, t3, t4, t5, t6⟩ := RZ.out wa hS
      have zr : w.heap.size + 1 < wa.heap.size := Nat.lt_of_lt_of_le z1 hS.2.2.2.1
      clear hS hB
      obtain ⟨u0, u1, u2, u3, u4, u5, u6, hu⟩ := stepV_agg2 y0 y1 y2 y3 y4 y5 y6 f (F k) (D k)
      have T1 := fun w => T.out y0 y1 y2 y3 y4 y5 y6 f (F k) (D k) w
      rw [hu] at T1
      have T2 : Hid _ := T1
      have HU : Hid _ := hu
      clear T1 hu
      obtain ⟨ov, ho⟩ : ∃ ov, stepOk y0 y1 y2 y3 y4 y5 y6 f (F k) (D k) = ov := ⟨_, rfl⟩
      rw [ho] at T2
      have HV : Hid _ := ho
      clear ho
      go_wp2_with fail
      go_cut [15, 16] (fun s t wx => ∃ p : Nat, s = .pointer (some ⟨p, 0, none⟩) ∧ t = .bool ov ∧ wa.heap.size ≤ p ∧ p < wx.heap.size ∧ Keep7 p u0 u1 u2 u3 u4 u5 u6 wx ∧ Below wa.heap.size wa wx)
      case first =>
        go_region_held3 (fun w' => w'.cell? ⟨w.heap.size, 0, none⟩ = some (.int .i64 y0) ∧ w'.cell? ⟨w.heap.size, 1, none⟩ = some (.int .i64 y1) ∧ w'.cell? ⟨w.heap.size, 2, none⟩ = some (.int .i64 y2) ∧ w'.cell? ⟨w.heap.size, 3, none⟩ = some (.int .i64 y3) ∧ w'.cell? ⟨w.heap.size, 4, none⟩ = some (.int .i64 y4) ∧ w'.cell? ⟨w.heap.size, 5, none⟩ = some (.int .i64 y5) ∧ w'.cell? ⟨w.heap.size, 6, none⟩ = some (.int .i64 y6) ∧ w'.cell? ⟨g, o + k, none⟩ = some (.int .i64 (F k)) ∧ w'.cell? ⟨gd, od + k, none⟩ = some (.int .i64 (D k))) (first | (refine keepB c0 c1 c2 c3 c4 c5 c6 a0' b0' zp zg zgd ?_; exact (by repeat (first | with_reducible exact Below.refl _ _ | with_reducible exact B3 | with_reducible refine Below.setCell ?_ (by first | omega | (simp; done) | (simp; omega)) _ | with_reducible refine bDrewN ?_ _ | with_reducible refine Below.drew ?_ | with_reducible refine Below.alloc ?_ (by first | omega | (simp; done) | (simp; omega)) _)))) (first
          | (go_at_call 15; refine (T2.out _).mono ?_; rintro r w3 ⟨rfl, h3⟩; obtain ⟨hc3, hf3⟩ := bcell h3; have B3 : Below wa.heap.size wa w3 := Below.trans (by repeat (first | with_reducible exact Below.refl _ _ | with_reducible refine Below.setCell ?_ (by first | omega | (simp; done) | (simp; omega)) _ | with_reducible refine bDrewN ?_ _ | with_reducible refine Below.drew ?_ | with_reducible refine Below.alloc ?_ (by first | omega | (simp; done) | (simp; omega)) _)) (h3.mono (by first | omega | (simp; done) | (simp; omega))); have z3 := h3.size; simp at z3; have z3a : wa.heap.size ≤ w3.heap.size := (by omega)))
        all_goals
          go_wp2_with fail
          go_meet
          case rel =>
            refine ⟨_, rfl, rfl, ?_, ?_, ⟨?_, ?_, ?_, ?_, ?_, ?_, ?_⟩, (by repeat (first | with_reducible exact Below.refl _ _ | with_reducible exact B3 | with_reducible refine Below.setCell ?_ (by first | omega | (simp; done) | (simp; omega)) _ | with_reducible refine bDrewN ?_ _ | with_reducible refine Below.drew ?_ | with_reducible refine Below.alloc ?_ (by first | omega | (simp; done) | (simp; omega)) _))⟩
            all_goals first | omega | (simp [go_sem, *]; done) | (simp; omega) | (simp [*]; omega)
      case rest =>
      clear c0 c1 c2 c3 c4 c5 c6 a0' b0' zp zf gf t0 t1 t2 t3 t4 t5 t6 zr
      obtain ⟨p, rfl, rfl, hp1, hp2, hK, hB⟩ := hcut
      obtain ⟨v0, v1, v2, v3, v4, v5, v6⟩ := hK
      have CA : Hid (CtlAt w.heap.size w1 wc u12 k (feedK (x0, x1, x2, x3, x4, x5, x6) L F D) y0 y1 y2 y3 y4 y5 y6) := BA.out.below hB
      have zwa : w.heap.size + 1 < wa.heap.size := Nat.lt_of_lt_of_le z1 BA.out.1.2.2.2.1
      clear BA
      obtain ⟨hS, hD, -⟩ := CA.out
      obtain ⟨zp, zf, c0, c1, c2, c3, c4, c5, c6⟩ := hD
      obtain ⟨gf, t0, t1, t2, t3, t4, t5, t6⟩ := RZ.out wc hS
      have zr : w.heap.size + 1 < wc.heap.size := Nat.lt_of_lt_of_le z1 hS.2.2.2.1
      have ne : ¬ p = w.heap.size := by omega
      have BC : Below w.heap.size w wc := B1.trans (hS.below (Nat.le_refl _) (by omega))
      clear hS hB c0 c1 c2 c3 c4 c5 c6 zg zgd
      cases ov
      · have NO : Hid (ctlOk (x0, x1, x2, x3, x4, x5, x6) L F D k = false) := ctl_noS HY.out (fun a => HF.out.symm) HV.out
        go_wp2
        refine bodyPost_ret (v := .tuple #[.slice (some ⟨w.heap.size + 1 + 1, 0, none⟩) 0 0, drum0, .bool false]) (by simp [results, Try.results13, go_sem, t0, t1, t2, t3, t4, t5, t6, drum0]) rfl ⟨0, (0, 0, 0, 0, 0, 0, 0), false, _, _, .inr ⟨rfl, rfl, rfl, fun q => by have := q.2 k HN.out; rw [NO.out] at this; cases this⟩, rfl, fun j hj => by omega, ?_⟩
        exact (by repeat (first | with_reducible exact Below.refl _ _ | with_reducible exact BC | with_reducible refine Below.setCell ?_ (by first | omega | (simp; done) | (simp; omega)) _ | with_reducible refine bDrewN ?_ _ | with_reducible refine Below.drew ?_ | with_reducible refine Below.alloc ?_ (by first | omega | (simp; done) | (simp; omega)) _))
      · have ID : inS (D k) := (ok_act (x := (y0, y1, y2, y3, y4, y5, y6)) HV.out).2.2
        have HE : Hid (f = feedK (x0, x1, x2, x3, x4, x5, x6) L F D k) := by
          have a := ID
          have e : f = feedV (y0, y1, y2, y3, y4, y5, y6) L (D k) := HF.out.symm
          rw [HY.out] at e
          exact e
        have NX : Hid ((u0, u1, u2, u3, u4, u5, u6) = ctlT (x0, x1, x2, x3, x4, x5, x6) L F D (k + 1)) := by
          refine (valT_inj (HU.out.symm.trans (stepV_next _ _ _ _ _ _ _ _ _ _ HV.out))).trans ?_
          rw [HY.out, HE.out]
          rfl
        have OX : Hid (∀ j, j < k + 1 → ctlOk (x0, x1, x2, x3, x4, x5, x6) L F D j = true) := fun j hj => by
          by_cases q : j = k
          · subst q
            unfold ctlOk
            rw [← HE.out, ← HY.out]
            exact HV.out
          · exact HO.out j (by omega)
        have CS := CA.out.set z1a u0 u1 u2 u3 u4 u5 u6
        unfold set7 at CS
        have HOW := CS.2.2
        have HZ := CS.1.2.2.2.1
        have HCS := CS
        clear CS ID
        obtain ⟨zp', zf', c0, c1, c2, c3, c4, c5, c6⟩ := CA.out.2.1
        go_upto_region 15 with fail
        obtain ⟨wd, hwd⟩ : ∃ wd, wd = ((((((wc.setCell ⟨w.heap.size, 0, none⟩ (.int .i64 u0)).setCell ⟨w.heap.size, 1, none⟩ (.int .i64 u1)).setCell ⟨w.heap.size, 2, none⟩ (.int .i64 u2)).setCell ⟨w.heap.size, 3, none⟩ (.int .i64 u3)).setCell ⟨w.heap.size, 4, none⟩ (.int .i64 u4)).setCell ⟨w.heap.size, 5, none⟩ (.int .i64 u5)).setCell ⟨w.heap.size, 6, none⟩ (.int .i64 u6) := ⟨_, rfl⟩
        rw [← hwd] at HCS HOW HZ ⊢
        have HOW : Hid _ := HOW
        have HZ : Hid _ := HZ
        have HCS : Hid (CtlAt w.heap.size w1 wd u12 k (feedK (x0, x1, x2, x3, x4, x5, x6) L F D) u0 u1 u2 u3 u4 u5 u6) := HCS
        clear hwd c0 c1 c2 c3 c4 c5 c6 zf' zp' v0 v1 v2 v3 v4 v5 v6
        go_wp2_with (at_builtin; refine list_i64 w1.heap.size u12 k (vals (feedK (x0, x1, x2, x3, x4, x5, x6) L F D) k) (.tmp 89) (.tmp 91) (by rfl) (by rfl) (by rfl) (by rfl) (by exact HOW.out) (by omega) (by exact HZ.out) ?_; intro g' cap' w3 hown3 hgrow3 hlt3)
        go_roundw
        case rel => exact ⟨k + 1, (u0, u1, u2, u3, u4, u5, u6), by have := HN.out; omega, by go_num, HCS.out.on z1a hgrow3 hown3 HE.out, NX.out, OX.out⟩
        case measure => have := HN.out; simp [intOf]; omega
    · obtain rfl : k = n := by omega
      obtain ⟨s', cap, rfl, ho⟩ := HA.out.own
      have HW : Hid (OwnI w1.heap.size wr s' k (feedK (x0, x1, x2, x3, x4, x5, x6) L F D)) := ho
      have BC : Below w.heap.size w wr := B1.trans (HA.out.1.below (Nat.le_refl _) (by omega))
      clear ho
      go_wp2_with fail
      go_region
      all_goals
       go_wp2
       refine bodyPost_ret (v := .tuple #[.slice s' k cap, .agg #[.int .i64 y0, .int .i64 y1, .int .i64 y2, .int .i64 y3, .int .i64 y4, .int .i64 y5, .int .i64 y6], .bool true]) (by simp [results, Try.results13, go_sem, t0, t1, t2, t3, t4, t5, t6]) rfl ⟨k, (y0, y1, y2, y3, y4, y5, y6), true, _, _, .inl ⟨rfl, HY.out, rfl, GO.out, HO.out⟩, rfl, ?_, ?_⟩
       · have BT := set7_beside wr (w.heap.size + 1) y0 y1 y2 y3 y4 y5 y6
         unfold set7 at BT
         have OT := (HW.out.beside BT (by omega)).mono (Nat.le_of_lt z1a)
         refine OwnI.below OT ?_
         exact (by repeat (first | with_reducible exact Below.refl _ _ | with_reducible refine Below.setCell ?_ (by first | omega | (simp; done) | (simp; omega)) _ | with_reducible refine bDrewN ?_ _ | with_reducible refine Below.drew ?_ | with_reducible refine Below.alloc ?_ (by first | omega | (simp; done) | (simp; omega)) _))
       · exact (by repeat (first | with_reducible exact Below.refl _ _ | with_reducible exact BC | with_reducible refine Below.setCell ?_ (by first | omega | (simp; done) | (simp; omega)) _ | with_reducible refine bDrewN ?_ _ | with_reducible refine Below.drew ?_ | with_reducible refine Below.alloc ?_ (by first | omega | (simp; done) | (simp; omega)) _))
end Go.Proofs.Ytigcbgiakijloaa
