/-
What is proved: the program's MinCuts again, and that each cut's list has room for its own length.
-/
import Derived.Test.YtpaiajeigdifcaaCxJz
namespace Go.Proofs.Ytpaiajeigdifcaa
set_option maxRecDepth 40000
open Go.ChangeShapes Go.WideShapes Go.ChangeAt Go.RowKit
set_option linter.unusedVariables false
set_option linter.unusedSimpArgs false

set_option maxRecDepth 20000 in
set_option maxHeartbeats 2000000 in
theorem listC_any (f : Nat) (w : World) (hf : f < 1024) :
    Calls Try.prog 54 #[.int .u32 (f : Int)] w fun e w' => ∃ s c, e = .returned (.slice s (popS f) c) ∧ OwnI w.heap.size w' s (popS f) (nthI (lsT f 10)) ∧ Below w.heap.size w w' ∧ popS f ≤ c := by
  go_enter Try.func54, Try.ntmps54
  go_wp2_with fail
  go_loopw [3, 5] (fun v i wr => ∃ k : Nat, k ≤ 10 ∧ i = .int .i64 k ∧ Hid (MadeL w.heap.size 0 0 w wr v (lsT f k))) (fun _ i _ => 10 - (intOf i).toNat)
  case atStart => exact ⟨0, Nat.zero_le _, rfl, madeL_nil w⟩
  case round =>
    obtain ⟨k, hk, rfl, HM⟩ := hrel
    have zr : w.heap.size ≤ wr.heap.size := HM.out.2.1.size
    by_cases h1 : k < 10
    · have k1 : (k : Int) < 10 := by omega
      go_wp2_with fail
      refine (has_any f k _ (by omega) (by omega)).mono ?_
      rintro e w1 ⟨rfl, rfl⟩
      cases q : f.testBit k
      · have HE : Hid (lsT f (k + 1) = lsT f k) := by show (if f.testBit k = true then lsT f k ++ [(k : Int)] else lsT f k) = _; rw [q]; rfl
        go_wp2
        go_roundw
        case rel => exact ⟨k + 1, by omega, by go_num, by rw [HE.out]; exact HM.out⟩
        case measure => first | (simp [intOf]; done) | (simp [intOf]; omega)
      · have HE : Hid (lsT f (k + 1) = lsT f k ++ [(k : Int)]) := by show (if f.testBit k = true then lsT f k ++ [(k : Int)] else lsT f k) = _; rw [q]; rfl
        have LL := ls_len f k
        obtain ⟨l, hl⟩ : ∃ l, lsT f k = l := ⟨_, rfl⟩
        rw [hl] at LL HE HM
        have HOH : Hid (w1.ownsRow w.heap.size 2 1 u3 l.length (cellsOf l)) := HM.out.1
        clear hl
        go_wp2_with (at_builtin; refine list_i64h w.heap.size u3 l.length (cellsOf l) (.tmp 11) (.tmp 13) (by rfl) (by rfl) (by rfl) (by rfl) HOH.out (by omega) (by omega) ?_; intro g' cap' w9 hown9 hgrow9 hlt9 hat9)
        go_roundw
        case rel => exact ⟨k + 1, by omega, by go_num, by rw [HE.out]; exact madeL_on HM.out (Below.refl _ _) (by omega) (by omega) hown9 hgrow9 hat9⟩
        case measure => first | (simp [intOf]; done) | (simp [intOf]; omega)
    · obtain rfl : k = 10 := by omega
      obtain ⟨s, cap, rfl, ho, -⟩ := madeL_own HM.out
      have HP : Hid (OwnI w.heap.size wr s (popS f) (nthI (lsT f 10)) ∧ Below w.heap.size w wr) := ⟨by rw [(rev_at hf).2]; exact ho, HM.out.2.1⟩
      have HLn : Hid (popS f = (lsT f 10).length) := (rev_at hf).2
      have HCp : Hid (popS f ≤ cap) := by
        show popS f ≤ cap
        rw [HLn.out]
        rcases HM.out.1.2 with ⟨e, q⟩ | ⟨g, cap', cur, e, _, _, hc, _⟩
        · omega
        · cases e; exact hc
      clear ho HM
      obtain ⟨m, hm⟩ : ∃ m, (lsT f 10).length = m := ⟨_, rfl⟩
      rw [hm] at HLn ⊢
      go_wp2
      go_ret
      exact ⟨s, cap, (by rw [HLn.out]; rfl), HP.out.1, HP.out.2, HCp.out⟩
def MinPostC (x : Int) (n : Nat) (X : Nat → Int) (K : Nat → Nat) (V : Nat → Nat → Int) (w : World) (e : Ending) (w' : World) : Prop := ∃ (s : Option Addr) (c m : Nat) (W : Nat → Int) (S : Nat → Prop), e = .returned (.slice s m c) ∧ (∀ k, S k → w.heap.size ≤ k ∧ k < w'.heap.size) ∧ OwnLL S w' s m (kkW W) (vvW W) ∧ CutR (treeB x n X K V) (mnB x.toNat n X K V) (2 ^ x.toNat) m W ∧ Below w.heap.size w w' ∧ ∀ i, i < m → ∃ b a c', s = some ⟨b, 0, none⟩ ∧ w'.cell? ⟨b, i, none⟩ = some (.slice a (kkW W i) c') ∧ kkW W i ≤ c'
theorem minC_no {x : Int} {n : Nat} {X : Nat → Int} {K : Nat → Nat} {V : Nat → Nat → Int} {w w' : World} {s : Option Addr} {c : Nat} (h : treeB x n X K V = false) (hb : Below w.heap.size w w') : MinPostC x n X K V w (.returned (.slice s 0 c)) w' :=
  ⟨s, c, 0, fun _ => 0, fun _ => False, rfl, fun k q => q.elim, ll_nil _ _ _ _ _, ⟨fun q => (by rw [h] at q; cases q), fun _ => rfl⟩, hb, fun i hi => by omega⟩
set_option maxRecDepth 20000 in
set_option maxHeartbeats 4000000 in
theorem implMinC_any (x : Int) (s : Option Addr) (n c : Nat) (X : Nat → Int) (K : Nat → Nat) (V : Nat → Nat → Int) (w : World) (HR : Hid (RowGat w s n X K V)) :
    Calls Try.prog 18 #[.agg #[.int .i64 x, .slice s n c]] w fun e w' => MinPostC x n X K V w e w' := by
  go_enter Try.func18, Try.ntmps18
  go_wp2_with fail
  obtain ⟨wd, hwd⟩ : ∃ wd, wd = w.alloc (.cells #[.int .i64 x, .slice s n c] 26) := ⟨_, rfl⟩
  rw [← hwd]
  have B0 : Below w.heap.size w wd := by rw [hwd]; exact (by repeat (first | with_reducible exact Below.refl _ _ | with_reducible refine Below.setCell ?_ (by first | omega | (simp; done) | (simp; omega)) _ | with_reducible refine bDrewN ?_ _ | with_reducible refine Below.drew ?_ | with_reducible refine Below.alloc ?_ (by first | omega | (simp; done) | (simp; omega)) _))
  have p0 : wd.cell? ⟨w.heap.size, 0, none⟩ = some (.int .i64 x) := by rw [hwd]; simp [go_sem]
  have p1 : wd.cell? ⟨w.heap.size, 1, none⟩ = some (.slice s n c) := by rw [hwd]; simp [go_sem]
  have zd : w.heap.size < wd.heap.size := by rw [hwd]; simp
  clear hwd
  refine (implTreeOk_any x s n c X K V _ (HR.out.below B0)).mono ?_
  rintro e w1 ⟨rfl, h1⟩
  replace p0 := (h1.cell (p := ⟨w.heap.size, 0, none⟩) zd).trans p0
  replace p1 := (h1.cell (p := ⟨w.heap.size, 1, none⟩) zd).trans p1
  have z1 := Nat.lt_of_lt_of_le zd h1.size
  have B1 : Below w.heap.size w w1 := B0.trans (h1.mono B0.size)
  clear h1 B0 zd
  cases h0 : treeB x n X K V
  · go_wp2
    go_ret
    exact minC_no h0 (by repeat (first | with_reducible exact Below.refl _ _ | with_reducible exact B1 | with_reducible refine Below.setCell ?_ (by first | omega | (simp; done) | (simp; omega)) _ | with_reducible refine bDrewN ?_ _ | with_reducible refine Below.drew ?_ | with_reducible refine Below.alloc ?_ (by first | omega | (simp; done) | (simp; omega)) _))
  have HT : Hid (treeB x n X K V = true) := h0
  clear h0
  obtain ⟨⟨x0, x1⟩, -, -⟩ := tree_yes HT.out
  obtain ⟨y, rfl⟩ : ∃ y : Nat, x = (y : Int) := ⟨x.toNat, by omega⟩
  go_wp2_with fail
  refine (cuts_any y s n c X K V _ HT (HR.out.below B1)).mono ?_
  rintro e w2 ⟨s1, c1, m, W, rfl, m5, O1, G1, h1⟩
  have HB2 : Hid (Below w.heap.size w w2) := B1.trans (h1.mono B1.size)
  have HRU : Hid (RowU w2 s1 m W) := O1.row
  have HG : Hid (CutG (mnB y n X K V) (2 ^ y) m W) := G1
  have HCR : Hid (CutR (treeB (y : Int) n X K V) (mnB (y : Int).toNat n X K V) (2 ^ (y : Int).toNat) m W) := ⟨fun _ => (by rw [Int.toNat_natCast]; exact G1), fun q => (by rw [HT.out] at q; cases q)⟩
  have hml := make_ll m (by omega)
  have sto := store_slT
  have HY : Hid (2 ^ y ≤ 1024) := (Nat.pow_le_pow_right (by decide) (by omega) : 2 ^ y ≤ 2 ^ 10)
  clear h1 B1 z1 p0 p1 O1 G1
  go_wp2_with fail
  go_loopw [17] (fun i wr => ∃ k : Nat, k ≤ m ∧ i = .int .i64 k ∧ Hid (LT (fun q => w2.heap.size ≤ q) w2.heap.size wr m k (kkW W) (vvW W)) ∧ Hid (Below w2.heap.size w2 wr) ∧ Hid (∀ i, i < k → ∃ a c', wr.cell? ⟨w2.heap.size, i, none⟩ = some (.slice a (kkW W i) c') ∧ kkW W i ≤ c')) (fun i _ => m - (intOf i).toNat)
  case atStart =>
    refine ⟨0, Nat.zero_le _, rfl, LT.start (w := w2) (Nat.le_refl _) ?_ ?_ ?_, (show Below w2.heap.size w2 _ from (by repeat (first | with_reducible exact Below.refl _ _ | with_reducible refine Below.setCell ?_ (by first | omega | (simp; done) | (simp; omega)) _ | with_reducible refine bDrewN ?_ _ | with_reducible refine Below.drew ?_ | with_reducible refine Below.alloc ?_ (by first | omega | (simp; done) | (simp; omega)) _))), fun i hi => by omega⟩
    · first | (simp; done) | (simp; omega)
    · intro o; simp [go_sem]
    · intro i hi; have hm := made_slX hi; simpa [go_sem] using hm
  case round =>
    obtain ⟨k, hk, rfl, HL, HB, HC⟩ := hrel
    have zr := HB.out.size
    by_cases h2 : k < m
    · obtain ⟨b, b1, b2, -⟩ := HG.out.2.1 k h2
      obtain ⟨g, o, rfl, hg, c0⟩ := HRU.out k h2
      have d0 := (HB.out.cell (p := ⟨g, o + k, none⟩) hg).trans c0
      have zg : g < wr.heap.size := Nat.lt_of_lt_of_le hg zr
      have HK : Hid (kkW W k = popS b) := kk_at b2
      have HV : Hid (vvW W k = nthI (lsT b 10)) := vv_at b2
      rw [b2] at d0
      have k1 : (k : Int) < (m : Int) := by omega
      have zb : w2.heap.size < wr.heap.size := HL.out.2.1
      have e0 := HL.out.2.2.2.1 k (Nat.le_refl _) h2
      have f0 := HL.out.2.2.1 k
      have b10 : b < 1024 := Nat.lt_of_lt_of_le b1 HY.out
      clear c0 hg b2 b1
      go_wp2_with fail
      refine (listC_any b _ b10).mono ?_
      rintro e w3 ⟨s3, c3, rfl, O3, h3, cp3⟩
      have HC3 : Hid (∀ i, i < k + 1 → ∃ a c', (w3.setCell ⟨w2.heap.size, k, none⟩ (.slice s3 (popS b) c3)).cell? ⟨w2.heap.size, i, none⟩ = some (.slice a (kkW W i) c') ∧ kkW W i ≤ c') := fun i hi => by
        by_cases e : i = k
        · subst e
          refine ⟨s3, c3, ?_, by rw [HK.out]; exact cp3⟩
          rw [HK.out]
          have ez := (h3.cell (p := ⟨w2.heap.size, i, none⟩) zb).trans e0
          simp [go_sem, ez]
        · obtain ⟨a', c', q1, q2⟩ := HC.out i (by omega)
          have q3 := (h3.cell (p := ⟨w2.heap.size, i, none⟩) zb).trans q1
          exact ⟨a', c', by simpa [go_sem, e] using q3, q2⟩
      have HL3 : Hid (LT (fun q => w2.heap.size ≤ q) w2.heap.size (w3.setCell ⟨w2.heap.size, k, none⟩ (.slice s3 (popS b) c3)) m (k + 1) (kkW W) (vvW W)) := by
        have t := LT.on (c := c3) (s := s3) (w3 := w3) HL.out h2 (by rw [HK.out, HV.out]; exact O3) h3 (fun q hq => by omega)
        rw [HK.out] at t
        exact t
      have HB3 : Hid (Below w2.heap.size w2 (w3.setCell ⟨w2.heap.size, k, none⟩ (.slice s3 (popS b) c3))) := (HB.out.trans (h3.mono zr)).trans ((Beside.setCell _ _ _ _).below (Nat.le_refl _) (Nat.le_trans zr h3.size))
      replace e0 := (h3.cell (p := ⟨w2.heap.size, k, none⟩) zb).trans e0
      replace f0 := (h3.frozen (p := ⟨w2.heap.size, k, none⟩) zb).trans f0
      have z3 : w2.heap.size < w3.heap.size := Nat.lt_of_lt_of_le zb h3.size
      obtain ⟨l, hl⟩ : ∃ l, popS b = l := ⟨_, rfl⟩
      rw [hl] at HL3 HB3 HC3 ⊢
      clear h3 O3 d0 HL HB hl HK HC cp3
      go_wp2
      go_roundw
      case rel => exact ⟨k + 1, by omega, by go_num, HL3, HB3, HC3⟩
      case measure => first | (simp [intOf]; done) | (simp [intOf]; omega)
    · obtain rfl : k = m := by omega
      have HO : Hid (OwnLL (fun q => w2.heap.size ≤ q ∧ q < wr.heap.size) wr (some ⟨w2.heap.size, 0, none⟩) k (kkW W) (vvW W)) := HL.out.done.bound
      go_wp2
      go_ret
      exact ⟨_, _, k, W, _, rfl, fun q hq => ⟨Nat.le_trans HB2.out.size hq.1, hq.2⟩, HO.out, HCR.out, HB2.out.trans (HB.out.mono HB2.out.size), fun i hi => by obtain ⟨a', c', q1, q2⟩ := HC.out i hi; exact ⟨_, a', c', rfl, q1, q2⟩⟩
end Go.Proofs.Ytpaiajeigdifcaa
