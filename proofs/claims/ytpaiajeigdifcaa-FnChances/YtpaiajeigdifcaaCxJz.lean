/-
What is proved: the program's MinCuts: a list of lists of its own, the cuts in their order.
-/
import Derived.Test.YtpaiajeigdifcaaCxIz
import Derived.Test.YtpaiajeigdifcaaTn
namespace Go.Proofs.Ytpaiajeigdifcaa
set_option maxRecDepth 40000
open Go.ChangeShapes Go.WideShapes Go.ChangeAt Go.RowKit
set_option linter.unusedVariables false
set_option linter.unusedSimpArgs false

def kkW (W : Nat → Int) (i : Nat) : Nat := popS (W i).toNat
def vvW (W : Nat → Int) (i : Nat) : Nat → Int := nthI (lsT (W i).toNat 10)
theorem kk_at {W : Nat → Int} {i b : Nat} (h : W i = (b : Int)) : kkW W i = popS b := by unfold kkW; rw [h, Int.toNat_natCast]
theorem vv_at {W : Nat → Int} {i b : Nat} (h : W i = (b : Int)) : vvW W i = nthI (lsT b 10) := by unfold vvW; rw [h, Int.toNat_natCast]
def MinPost (x : Int) (n : Nat) (X : Nat → Int) (K : Nat → Nat) (V : Nat → Nat → Int) (w : World) (e : Ending) (w' : World) : Prop := ∃ (s : Option Addr) (c m : Nat) (W : Nat → Int) (S : Nat → Prop), e = .returned (.slice s m c) ∧ (∀ k, S k → w.heap.size ≤ k ∧ k < w'.heap.size) ∧ OwnLL S w' s m (kkW W) (vvW W) ∧ CutR (treeB x n X K V) (mnB x.toNat n X K V) (2 ^ x.toNat) m W ∧ Below w.heap.size w w'
theorem ll_nil (S : Nat → Prop) (w : World) (s : Option Addr) (K : Nat → Nat) (V : Nat → Nat → Int) : OwnLL S w s 0 K V := ⟨fun _ => 0, fun i hi => absurd hi (Nat.not_lt_zero i), fun i i' hi => absurd hi (Nat.not_lt_zero i)⟩
theorem min_no {x : Int} {n : Nat} {X : Nat → Int} {K : Nat → Nat} {V : Nat → Nat → Int} {w w' : World} {s : Option Addr} {c : Nat} (h : treeB x n X K V = false) (hb : Below w.heap.size w w') : MinPost x n X K V w (.returned (.slice s 0 c)) w' :=
  ⟨s, c, 0, fun _ => 0, fun _ => False, rfl, fun k q => q.elim, ll_nil _ _ _ _ _, ⟨fun q => (by rw [h] at q; cases q), fun _ => rfl⟩, hb⟩
theorem made_slX {a j : Nat} (h : j < a) : (madeCells #[Value.slice none 0 0] a)[j]? = some (.slice none 0 0) := by
  unfold madeCells
  simp [h, Nat.mod_one]
set_option maxRecDepth 20000 in
set_option maxHeartbeats 4000000 in
theorem implMin_any (x : Int) (s : Option Addr) (n c : Nat) (X : Nat → Int) (K : Nat → Nat) (V : Nat → Nat → Int) (w : World) (HR : Hid (RowGat w s n X K V)) :
    Calls Try.prog 18 #[.agg #[.int .i64 x, .slice s n c]] w fun e w' => MinPost x n X K V w e w' := by
  go_enter Try.func18, Try.ntmps18
  go_wp2_with fail
  obtain ⟨wd, hwd⟩ : ∃ wd, wd = w.alloc (.cells #[.int .i64 x, .slice s n c] 26) := ⟨_, rfl⟩
  rw [← hwd]
  have B0 : Below w.heap.size w wd := by rw [hwd]; exact (by repeat (first | with_reducible exact Below.refl _ _ | with_reducible refine Below.setCell ?_ (by first | omega | (simp; done) | (simp; omega)) _ | with_reducible refine bDrewN ?_ _ | with_reducible refine Below.drew ?_ | with_reducible refine Below.alloc ?_ (by first | omega | (simp; done) | (simp; omega)) _))
  have p0 : wd.cell? ⟨w.heap.size, 0, none⟩ = some (.int .i64 x) := by rw [hwd]; simp [go_sem]
  have p1 : wd.cell? ⟨w.heap.size, 1, none⟩ = some (.slice s n c) := by rw [hwd]; simp [go_sem]
  have zd : w.heap.size < wd.heap.size := by rw [hwd]; simp
  clear hwd
  refine (implTreeOk_any x s n c X K V _ (HR.out.below B0)).mono ?_
  rintro e w1 ⟨rfl, h1⟩
  replace p0 := (h1.cell (p := ⟨w.heap.size, 0, none⟩) zd).trans p0
  replace p1 := (h1.cell (p := ⟨w.heap.size, 1, none⟩) zd).trans p1
  have z1 := Nat.lt_of_lt_of_le zd h1.size
  have B1 : Below w.heap.size w w1 := B0.trans (h1.mono B0.size)
  clear h1 B0 zd
  cases h0 : treeB x n X K V
  · go_wp2
    go_ret
    exact min_no h0 (by repeat (first | with_reducible exact Below.refl _ _ | with_reducible exact B1 | with_reducible refine Below.setCell ?_ (by first | omega | (simp; done) | (simp; omega)) _ | with_reducible refine bDrewN ?_ _ | with_reducible refine Below.drew ?_ | with_reducible refine Below.alloc ?_ (by first | omega | (simp; done) | (simp; omega)) _))
  have HT : Hid (treeB x n X K V = true) := h0
  clear h0
  obtain ⟨⟨x0, x1⟩, -, -⟩ := tree_yes HT.out
  obtain ⟨y, rfl⟩ : ∃ y : Nat, x = (y : Int) := ⟨x.toNat, by omega⟩
  go_wp2_with fail
  refine (cuts_any y s n c X K V _ HT (HR.out.below B1)).mono ?_
  rintro e w2 ⟨s1, c1, m, W, rfl, m5, O1, G1, h1⟩
  have HB2 : Hid (Below w.heap.size w w2) := B1.trans (h1.mono B1.size)
  have HRU : Hid (RowU w2 s1 m W) := O1.row
  have HG : Hid (CutG (mnB y n X K V) (2 ^ y) m W) := G1
  have HCR : Hid (CutR (treeB (y : Int) n X K V) (mnB (y : Int).toNat n X K V) (2 ^ (y : Int).toNat) m W) := ⟨fun _ => (by rw [Int.toNat_natCast]; exact G1), fun q => (by rw [HT.out] at q; cases q)⟩
  have hml := make_ll m (by omega)
  have sto := store_slT
  have HY : Hid (2 ^ y ≤ 1024) := (Nat.pow_le_pow_right (by decide) (by omega) : 2 ^ y ≤ 2 ^ 10)
  clear h1 B1 z1 p0 p1 O1 G1
  go_wp2_with fail
  go_loopw [17] (fun i wr => ∃ k : Nat, k ≤ m ∧ i = .int .i64 k ∧ Hid (LT (fun q => w2.heap.size ≤ q) w2.heap.size wr m k (kkW W) (vvW W)) ∧ Hid (Below w2.heap.size w2 wr)) (fun i _ => m - (intOf i).toNat)
  case atStart =>
    refine ⟨0, Nat.zero_le _, rfl, LT.start (w := w2) (Nat.le_refl _) ?_ ?_ ?_, (show Below w2.heap.size w2 _ from (by repeat (first | with_reducible exact Below.refl _ _ | with_reducible refine Below.setCell ?_ (by first | omega | (simp; done) | (simp; omega)) _ | with_reducible refine bDrewN ?_ _ | with_reducible refine Below.drew ?_ | with_reducible refine Below.alloc ?_ (by first | omega | (simp; done) | (simp; omega)) _)))⟩
    · first | (simp; done) | (simp; omega)
    · intro o; simp [go_sem]
    · intro i hi; have hm := made_slX hi; simpa [go_sem] using hm
  case round =>
    obtain ⟨k, hk, rfl, HL, HB⟩ := hrel
    have zr := HB.out.size
    by_cases h2 : k < m
    · obtain ⟨b, b1, b2, -⟩ := HG.out.2.1 k h2
      obtain ⟨g, o, rfl, hg, c0⟩ := HRU.out k h2
      have d0 := (HB.out.cell (p := ⟨g, o + k, none⟩) hg).trans c0
      have zg : g < wr.heap.size := Nat.lt_of_lt_of_le hg zr
      have HK : Hid (kkW W k = popS b) := kk_at b2
      have HV : Hid (vvW W k = nthI (lsT b 10)) := vv_at b2
      rw [b2] at d0
      have k1 : (k : Int) < (m : Int) := by omega
      have zb : w2.heap.size < wr.heap.size := HL.out.2.1
      have e0 := HL.out.2.2.2.1 k (Nat.le_refl _) h2
      have f0 := HL.out.2.2.1 k
      have b10 : b < 1024 := Nat.lt_of_lt_of_le b1 HY.out
      clear c0 hg b2 b1
      go_wp2_with fail
      refine (list_any b _ b10).mono ?_
      rintro e w3 ⟨s3, c3, rfl, O3, h3⟩
      have HL3 : Hid (LT (fun q => w2.heap.size ≤ q) w2.heap.size (w3.setCell ⟨w2.heap.size, k, none⟩ (.slice s3 (popS b) c3)) m (k + 1) (kkW W) (vvW W)) := by
        have t := LT.on (c := c3) (s := s3) (w3 := w3) HL.out h2 (by rw [HK.out, HV.out]; exact O3) h3 (fun q hq => by omega)
        rw [HK.out] at t
        exact t
      have HB3 : Hid (Below w2.heap.size w2 (w3.setCell ⟨w2.heap.size, k, none⟩ (.slice s3 (popS b) c3))) := (HB.out.trans (h3.mono zr)).trans ((Beside.setCell _ _ _ _).below (Nat.le_refl _) (Nat.le_trans zr h3.size))
      replace e0 := (h3.cell (p := ⟨w2.heap.size, k, none⟩) zb).trans e0
      replace f0 := (h3.frozen (p := ⟨w2.heap.size, k, none⟩) zb).trans f0
      have z3 : w2.heap.size < w3.heap.size := Nat.lt_of_lt_of_le zb h3.size
      obtain ⟨l, hl⟩ : ∃ l, popS b = l := ⟨_, rfl⟩
      rw [hl] at HL3 HB3 ⊢
      clear h3 O3 d0 HL HB hl HK
      go_wp2
      go_roundw
      case rel => exact ⟨k + 1, by omega, by go_num, HL3, HB3⟩
      case measure => first | (simp [intOf]; done) | (simp [intOf]; omega)
    · obtain rfl : k = m := by omega
      have HO : Hid (OwnLL (fun q => w2.heap.size ≤ q ∧ q < wr.heap.size) wr (some ⟨w2.heap.size, 0, none⟩) k (kkW W) (vvW W)) := HL.out.done.bound
      go_wp2
      go_ret
      exact ⟨_, _, k, W, _, rfl, fun q hq => ⟨Nat.le_trans HB2.out.size hq.1, hq.2⟩, HO.out, HCR.out, HB2.out.trans (HB.out.mono HB2.out.size)⟩
end Go.Proofs.Ytpaiajeigdifcaa
