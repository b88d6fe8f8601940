/-
What is proved: whether a feeder is selective, as the program tells it.
-/
import Derived.Test.YtmhibahefbldaaaSl
import Derived.Test.YtmhibahefbldaaaFeI
import Derived.Deep.RegionHeld3
import Derived.Deep.DeepCutAuto
namespace Go.Proofs.Ytmhibahefbldaaa
set_option maxRecDepth 40000
open Go.RowKit
set_option linter.unusedVariables false
set_option linter.unusedSimpArgs false

set_option maxRecDepth 20000 in
set_option maxHeartbeats 4000000 in
theorem apart_any (s : Option Addr) (k c : Nat) (V : Nat → Int) (a ap : Int) (w : World) (hk : (k : Int) ≤ 20) (hc : k + 1 ≤ c) (p0 : 0 ≤ ap) (p1 : ap ≤ 1000000) (HR : Hid (RowI w s ((k + 1) * 2) V)) :
    Calls Try.prog 34 #[.slice s (k + 1) c, .int .i64 a, .int .i64 ap] w fun e w' => e = .returned (.bool (apB V a ap k)) ∧ Below w.heap.size w w' := by
  have e1 : ((k + 1 : Nat) : Int) - 1 = (k : Int) := by omega
  have cc : (k : Int) ≤ (c : Int) := by omega
  have hB : Below w.heap.size w w := Below.refl _ _
  obtain ⟨g, o, rfl, hg, c0⟩ := HR.out (k * 2) (by omega)
  obtain ⟨g', o', e', hg1, c1⟩ := HR.out (k * 2 + 1) (by omega)
  cases e'
  have d0 : w.cell? ⟨g, o + k * 2, none⟩ = some (.int .i64 (V (k * 2))) := (hB.cell (p := ⟨g, o + k * 2, none⟩) hg).trans c0
  have d1 : w.cell? ⟨g, o + k * 2 + 1, none⟩ = some (.int .i64 (V (k * 2 + 1))) := (hB.cell (p := ⟨g, o + (k * 2 + 1), none⟩) hg).trans c1
  have zg : g < w.heap.size := Nat.lt_of_lt_of_le hg hB.size
  have HD : Hid (dl V a k = delV (V (k * 2)) (V (k * 2 + 1)) a) := rfl
  have dr := del_rng (V (k * 2)) (V (k * 2 + 1)) a
  obtain ⟨D, hD⟩ : ∃ D, delV (V (k * 2)) (V (k * 2 + 1)) a = D := ⟨_, rfl⟩
  have HI : Hid (∀ w, Calls Try.prog 9 #[.agg #[.int .i64 (V (k * 2)), .int .i64 (V (k * 2 + 1))], .int .i64 a] w fun e w' => e = .returned (.int .i64 D) ∧ Below w.heap.size w w') := fun w => hD ▸ implDelay_any _ _ a w
  rw [hD] at HD dr
  obtain ⟨dr0, dr1⟩ := dr
  clear hD
  clear hB c0 c1 hg hg1
  have k2 : (k : Int) < ((k + 1 : Nat) : Int) := by omega
  have e2 : IntKind.i64.wrap (((k + 1 : Nat) : Int) - 1) = (k : Int) := by rw [e1, IntKind.wrap_i64]; omega
  go_enter Try.func34, Try.ntmps34
  go_wp2_with fail
  refine (HI.out _).mono ?_
  rintro e w1 ⟨rfl, B1⟩
  have HB1 : Hid (Below w.heap.size w w1) := B1
  by_cases q0 : D < 0
  · have HO : Hid (apB V a ap k = false) := ap_neg (by rw [HD.out]; exact q0)
    go_wp2
    go_ret
    exact ⟨ret_bool HO.out.symm, B1⟩
  clear B1
  go_wp2_with fail
  go_loopw [27] (fun i wr => ∃ j : Nat, j ≤ k ∧ i = .int .i64 j ∧ Hid (∀ i, i < j → 0 ≤ dl V a i → dl V a k + ap ≤ dl V a i) ∧ Hid (Below w.heap.size w wr)) (fun i _ => k - (intOf i).toNat)
  case atStart => exact ⟨0, Nat.zero_le _, rfl, fun i hi => by omega, HB1.out⟩
  case round =>
    obtain ⟨j, hj, rfl, HP, HW⟩ := hrel
    by_cases hlt : j < k
    · have hB := HW.out
      obtain ⟨gm, om, eq1, hgm, c0⟩ := HR.out (j * 2) (by omega)
      cases eq1
      have hhgm := hgm
      obtain ⟨g', o', e', hgm1, c1⟩ := HR.out (j * 2 + 1) (by omega)
      cases e'
      have f0 : wr.cell? ⟨g, o + j * 2, none⟩ = some (.int .i64 (V (j * 2))) := (hB.cell (p := ⟨g, o + j * 2, none⟩) hhgm).trans c0
      have f1 : wr.cell? ⟨g, o + j * 2 + 1, none⟩ = some (.int .i64 (V (j * 2 + 1))) := (hB.cell (p := ⟨g, o + (j * 2 + 1), none⟩) hhgm).trans c1
      have yg : g < wr.heap.size := Nat.lt_of_lt_of_le hhgm hB.size
      have HE : Hid (dl V a j = delV (V (j * 2)) (V (j * 2 + 1)) a) := rfl
      have dm := del_rng (V (j * 2)) (V (j * 2 + 1)) a
      obtain ⟨E, hE⟩ : ∃ E, delV (V (j * 2)) (V (j * 2 + 1)) a = E := ⟨_, rfl⟩
      have HJ : Hid (∀ w, Calls Try.prog 9 #[.agg #[.int .i64 (V (j * 2)), .int .i64 (V (j * 2 + 1))], .int .i64 a] w fun e w' => e = .returned (.int .i64 E) ∧ Below w.heap.size w w') := fun w => hE ▸ implDelay_any _ _ a w
      rw [hE] at HE dm
      obtain ⟨dm0, dm1⟩ := dm
      clear hE
      have j1 : (j : Int) < (k : Int) := by omega
      clear hB c0 c1 hgm hhgm hgm1
      go_wp2_with fail
      refine (HJ.out _).mono ?_
      rintro e w2 ⟨rfl, h2⟩
      have B2 : Hid (Below w.heap.size w w2) := HW.out.trans (Below.mono (Below.trans (by repeat (first | with_reducible exact Below.refl _ _ | with_reducible refine Below.setCell ?_ (by first | omega | (simp; done) | (simp; omega)) _ | with_reducible refine bDrewN ?_ _ | with_reducible refine Below.drew ?_ | with_reducible refine Below.alloc ?_ (by first | omega | (simp; done) | (simp; omega)) _)) (h2.mono (by first | omega | (simp; done) | (simp; omega)))) HW.out.size)
      clear h2
      by_cases q1 : 0 ≤ E
      case neg =>
        have b1 : decide (0 ≤ E) = false := decide_eq_false q1
        go_wp2
        go_roundw
        case rel => exact ⟨j + 1, by omega, by go_num, ball_succ HP.out (fun h => by rw [HE.out] at h; omega), B2.out⟩
        case measure => simp [intOf]; omega
      by_cases q2 : E < D + ap
      · have HO : Hid (apB V a ap k = false) := ap_no hlt (by rw [HE.out]; exact q1) (by rw [HE.out, HD.out]; exact q2)
        have BF := B2.out
        go_wp2
        go_ret
        exact ⟨ret_bool HO.out.symm, BF⟩
      · have b2 : decide (E < D + ap) = false := decide_eq_false q2
        go_wp2
        go_roundw
        case rel => exact ⟨j + 1, by omega, by go_num, ball_succ HP.out (fun h => by rw [HE.out, HD.out]; omega), B2.out⟩
        case measure => simp [intOf]; omega
    · obtain rfl : j = k := by omega
      have HO : Hid (apB V a ap j = true) := ap_yes (by rw [HD.out]; omega) HP.out
      have BF := HW.out
      go_wp2
      go_ret
      exact ⟨ret_bool HO.out.symm, BF⟩
set_option maxHeartbeats 1000000 in
theorem currentsOk_any (s : Option Addr) (m c n : Nat) (A : Nat → Int) (w : World) (hm : (m : Int) ≤ 1048576) (HA : Hid (RowI w s m A)) :
    Calls Try.prog 33 #[.slice s m c, .int .i64 (n : Int)] w fun e w' => e = .returned (.bool (decide (m = n) && allInB 0 1000000 A m)) ∧ w' = w := by
  by_cases h : m = n
  · subst h
    go_enter Try.func33, Try.ntmps33
    go_wp2_with fail
    refine (allWithin_any s m c A 0 1000000 _ hm HA).mono ?_
    rintro e w1 ⟨rfl, rfl⟩
    go_wp2
    go_ret
    exact ⟨ret_bool (by simp), rfl⟩
  · have b : ((m : Int) == (n : Int)) = false := by simp; omega
    go_enter Try.func33, Try.ntmps33
    go_wp2
    go_ret
    exact ⟨ret_bool (by simp [h]), rfl⟩
theorem row_cut {w : World} {s : Option Addr} {n k : Nat} {V : Nat → Int} (h : RowI w s n V) (hk : k ≤ n) : RowI w s k V := fun j hj => h j (by omega)
set_option maxRecDepth 20000 in
set_option maxHeartbeats 8000000 in
theorem implSelective_any (s : Option Addr) (n c : Nat) (V : Nat → Int) (sa : Option Addr) (m ca : Nat) (A : Nat → Int) (ap : Int) (w : World) (hn : (n : Int) ≤ 1048576) (hm : (m : Int) ≤ 1048576) (hcap : n ≤ c) (HR : Hid (RowI w s (n * 2) V)) (HA : Hid (RowI w sa m A)) :
    Calls Try.prog 17 #[.slice s n c, .slice sa m ca, .int .i64 ap] w fun e w' => ∃ x, SelV n V m A ap x ∧ e = .returned (.int .i64 x) ∧ Below w.heap.size w w' := by
  go_enter Try.func17, Try.ntmps17
  go_wp2_with fail
  refine (implFeeder_any s n c V _ hn HR).mono ?_
  rintro e w1 ⟨rfl, B1⟩
  cases h0 : feedB n V
  · have HO : Hid (goS n V m A ap = false) := by show _ = _; unfold goS; simp [h0]
    go_wp2
    go_ret
    exact ⟨-2, .inl ⟨HO.out, rfl⟩, rfl, B1⟩
  obtain ⟨n0, n1, -⟩ := feed_yes h0
  go_wp2_with fail
  refine (currentsOk_any sa m ca n A _ hm (HA.out.below B1)).mono ?_
  rintro e w1 ⟨rfl, rfl⟩
  cases h1 : (decide (m = n) && allInB 0 1000000 A m)
  · have HO : Hid (goS n V m A ap = false) := by show _ = _; unfold goS; rw [← Bool.and_assoc (decide (m = n)), h1]; simp
    go_wp2
    go_ret
    exact ⟨-2, .inl ⟨HO.out, rfl⟩, rfl, B1⟩
  obtain rfl : m = n := by simp at h1; exact h1.1
  go_wp2_with fail
  refine (within_is _ _ _ _).mono ?_
  rintro e w1 ⟨rfl, rfl⟩
  cases h2 : inB 0 1000000 ap
  · have HO : Hid (goS m V m A ap = false) := by show _ = _; unfold goS; simp [h2]
    go_wp2
    go_ret
    exact ⟨-2, .inl ⟨HO.out, rfl⟩, rfl, B1⟩
  have HO : Hid (goS m V m A ap = true) := by
    show _ = _
    have ha : allInB 0 1000000 A m = true := by simpa using h1
    unfold goS; simp [ha, h0, h2]
  obtain ⟨p0, p1⟩ := inB_yes h2
  have HB1 : Hid (Below w.heap.size w w1) := B1
  clear B1 h0 h1 h2
  go_wp2_with fail
  go_loopw [25] (fun i wr => ∃ k : Nat, k ≤ m ∧ i = .int .i64 k ∧ Hid (∀ j, j < k → apB V (A j) ap j = true) ∧ Hid (Below w.heap.size w wr)) (fun i _ => m - (intOf i).toNat)
  case atStart => exact ⟨0, Nat.zero_le _, rfl, fun j hj => by omega, HB1.out⟩
  case round =>
    obtain ⟨k, hk, rfl, HP, HW⟩ := hrel
    by_cases hlt : k < m
    · obtain ⟨ga, oa, rfl, hga, a0⟩ := HA.out k hlt
      have d0 : wr.cell? ⟨ga, oa + k, none⟩ = some (.int .i64 (A k)) := (HW.out.cell (p := ⟨ga, oa + k, none⟩) hga).trans a0
      have za : ga < wr.heap.size := Nat.lt_of_lt_of_le hga HW.out.size
      have k1 : (k : Int) < (m : Int) := by omega
      obtain ⟨K1, hK1⟩ : ∃ K1 : Nat, k + 1 = K1 := ⟨_, rfl⟩
      have e3 : IntKind.i64.wrap ((k : Int) + 1) = (K1 : Int) := by rw [IntKind.wrap_i64]; omega
      have kc0 : (0 : Int) ≤ (K1 : Int) := by omega
      have kc : (K1 : Int) ≤ (c : Int) := by omega
      have HQ : Hid (∀ w', Below w.heap.size w w' → Calls Try.prog 34 #[.slice s K1 c, .int .i64 (A k), .int .i64 ap] w' fun e w'' => e = .returned (.bool (apB V (A k) ap k)) ∧ Below w'.heap.size w' w'') := fun w' hb => hK1 ▸ apart_any s k c V (A k) ap w' (by omega) (by omega) p0 p1 (row_cut (HR.out.below hb) (by omega))
      have HK1 : Hid (k + 1 = K1) := hK1
      clear hK1
      clear a0 hga
      go_upto_region 6 with fail
      go_cut [38] (fun q wx => q = .bool (!apB V (A k) ap k) ∧ Below wr.heap.size wr wx)
      case first =>
        go_region_held3 (fun w' => w'.cell? ⟨ga, oa + k, none⟩ = some (.int .i64 (A k))) (first | (refine (Below.cell (p := ⟨ga, oa + k, none⟩) (w := wr) ?_ za).trans d0; exact (by repeat (first | with_reducible exact Below.refl _ _ | with_reducible exact B3 | with_reducible refine Below.setCell ?_ (by first | omega | (simp; done) | (simp; omega)) _ | with_reducible refine bDrewN ?_ _ | with_reducible refine Below.drew ?_ | with_reducible refine Below.alloc ?_ (by first | omega | (simp; done) | (simp; omega)) _)))) (first
          | (go_at_call 34; refine (HQ.out _ (HW.out.trans (Below.mono (by repeat (first | with_reducible exact Below.refl _ _ | with_reducible refine Below.setCell ?_ (by first | omega | (simp; done) | (simp; omega)) _ | with_reducible refine bDrewN ?_ _ | with_reducible refine Below.drew ?_ | with_reducible refine Below.alloc ?_ (by first | omega | (simp; done) | (simp; omega)) _)) HW.out.size))).mono ?_; rintro r w3 ⟨rfl, h3⟩; have B3 : Below wr.heap.size wr w3 := Below.trans (by repeat (first | with_reducible exact Below.refl _ _ | with_reducible refine Below.setCell ?_ (by first | omega | (simp; done) | (simp; omega)) _ | with_reducible refine bDrewN ?_ _ | with_reducible refine Below.drew ?_ | with_reducible refine Below.alloc ?_ (by first | omega | (simp; done) | (simp; omega)) _)) (h3.mono (by first | omega | (simp; done) | (simp; omega)))))
        all_goals
          go_wp2_with fail
          go_meet
          case rel => exact ⟨rfl, (by repeat (first | with_reducible exact Below.refl _ _ | with_reducible exact B3 | with_reducible refine Below.setCell ?_ (by first | omega | (simp; done) | (simp; omega)) _ | with_reducible refine bDrewN ?_ _ | with_reducible refine Below.drew ?_ | with_reducible refine Below.alloc ?_ (by first | omega | (simp; done) | (simp; omega)) _))⟩
      case rest =>
        obtain ⟨rfl, hB⟩ := hcut
        have BC : Hid (Below w.heap.size w wc) := HW.out.trans (hB.mono HW.out.size)
        clear hB
        cases q : apB V (A k) ap k
        · have HF : Hid (SelV m V m A ap k) := .inr ⟨HO.out, .inr ⟨k, hlt, rfl, q, HP.out⟩⟩
          have BF := BC.out
          go_wp2
          go_ret
          exact ⟨k, HF.out, rfl, BF⟩
        · have HQ2 : Hid (apB V (A k) ap k = true) := q
          go_wp2
          go_roundw
          case rel => exact ⟨K1, by have := HK1.out; omega, (by first | rfl | go_num), HK1.out ▸ ball_succ HP.out HQ2.out, BC.out⟩
          case measure => have := HK1.out; simp [intOf]; omega
    · obtain rfl : k = m := by omega
      have BF := HW.out
      have HF : Hid (SelV k V k A ap (-1)) := .inr ⟨HO.out, .inl ⟨rfl, HP.out⟩⟩
      go_wp2
      go_ret
      exact ⟨-1, HF.out, rfl, BF⟩
end Go.Proofs.Ytmhibahefbldaaa
