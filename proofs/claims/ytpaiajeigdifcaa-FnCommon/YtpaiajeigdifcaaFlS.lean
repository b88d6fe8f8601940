/-
What is proved: what fails by a set of faults, as the specification says it.
-/
import Derived.Test.YtpaiajeigdifcaaFl
import Derived.Test.YtpaiajeigdifcaaBoA
import Derived.BigQuiet
namespace Go.Proofs.Ytpaiajeigdifcaa
set_option maxRecDepth 40000
open Go.ChangeShapes Go.WideShapes Go.ChangeAt Go.RowKit
set_option linter.unusedVariables false
set_option linter.unusedSimpArgs false

theorem or_i64w (f n : Nat) (hf : f < 2 ^ 62) (hn : n < 62) : bits .or .i64 (f : Int) (wrap64 (2 ^ n)) = ((f ||| 2 ^ n : Nat) : Int) := by
  have hp : 2 ^ n < 2 ^ 62 := Nat.pow_lt_pow_right (by decide) hn
  have hq : ((2 ^ n : Nat) : Int) < 4611686018427387904 := by have : ((2 ^ n : Nat) : Int) < ((2 ^ 62 : Nat) : Int) := Int.ofNat_lt.2 hp; simpa using this
  have hz : (0 : Int) ≤ ((2 ^ n : Nat) : Int) := Int.natCast_nonneg _
  rw [pow_cast, IntWalk.wrap64_in _ ⟨by omega, by omega⟩]
  exact (bits_nat .i64 62 (by decide) wraps_i64 f (2 ^ n) hf hp).2
set_option maxRecDepth 20000 in
set_option maxHeartbeats 2000000 in
theorem l23Bits_any (x : Nat) (s : Option Addr) (n c : Nat) (t : Option Addr) (m d : Nat) (U : Nat → Int) (w : World) (hx : (x : Int) ≤ 10) (hm : (m : Int) ≤ 1048576) (HR : Hid (RowI w t m U)) :
    Calls Try.prog 73 #[.agg #[.int .i64 (x : Int), .slice s n c], .slice t m d] w fun e w' => e = .returned (.int .i64 (setN x U m : Int)) ∧ Below w.heap.size w w' := by
  have HP : Hid (2 ^ x ≤ 2 ^ 10) := Nat.pow_le_pow_right (by decide) (by omega)
  go_enter Try.func73, Try.ntmps73
  go_wp2_with fail
  go_loopw [5, 6] (fun q i wr => ∃ j : Nat, j ≤ m ∧ i = .int .i64 j ∧ q = .int .i64 (setN x U j : Int) ∧ wr.cell? ⟨w.heap.size, 0, none⟩ = some (.int .i64 (x : Int)) ∧ w.heap.size < wr.heap.size ∧ Below w.heap.size w wr) (fun _ i _ => m - (intOf i).toNat)
  case atStart => exact ⟨0, Nat.zero_le _, rfl, rfl, by simp [go_sem], by simp, (by repeat (first | with_reducible exact Below.refl _ _ | with_reducible refine Below.setCell ?_ (by first | omega | (simp; done) | (simp; omega)) _ | with_reducible refine bDrewN ?_ _ | with_reducible refine Below.drew ?_ | with_reducible refine Below.alloc ?_ (by first | omega | (simp; done) | (simp; omega)) _))⟩
  case round =>
    obtain ⟨j, hj, rfl, rfl, q0, zp, hB⟩ := hrel
    by_cases h1 : j < m
    · obtain ⟨g, o, rfl, hg, c0⟩ := HR.out j h1
      have d0 := (hB.cell (p := ⟨g, o + j, none⟩) hg).trans c0
      have hz : g < wr.heap.size := Nat.lt_of_lt_of_le hg hB.size
      have j1 : (j : Int) < (m : Int) := by omega
      have HL : Hid (setN x U j < 2 ^ 62) := by show _ < _; have := set_lt x U j; have := HP.out; omega
      have HS : Hid (setN x U (j + 1) = if inB 0 ((x : Int) - 1) (U j) = true then setN x U j ||| 2 ^ (U j).toNat else setN x U j) := rfl
      obtain ⟨y, hy⟩ : ∃ y, U j = y := ⟨_, rfl⟩
      obtain ⟨f, hf⟩ : ∃ f, setN x U j = f := ⟨_, rfl⟩
      rw [hy] at d0 HS
      rw [hf] at HL HS ⊢
      clear c0 hy hf
      have HW : ∀ w, Calls Try.prog 70 #[.int .i64 y, .int .i64 0, .int .i64 ((x : Int) - 1)] w fun e w' => e = .returned (.bool (inB 0 ((x : Int) - 1) y)) ∧ w' = w := fun w => l1In_is _ _ _ w
      cases q : inB 0 ((x : Int) - 1) y
      · have HN : Hid (f = setN x U (j + 1)) := by show _ = _; rw [HS.out, q]; rfl
        rw [q] at HW
        go_wp2_with fail
        go_quiet (first | (go_at_call 70; refine Calls.quiet_of_same (HW _)))
        go_wp2
        go_roundw
        case rel => exact ⟨j + 1, by omega, by go_num, by rw [HN.out], by simpa using q0, by simpa using zp, (by repeat (first | with_reducible exact Below.refl _ _ | with_reducible exact hB | with_reducible refine Below.setCell ?_ (by first | omega | (simp; done) | (simp; omega)) _ | with_reducible refine bDrewN ?_ _ | with_reducible refine Below.drew ?_ | with_reducible refine Below.alloc ?_ (by first | omega | (simp; done) | (simp; omega)) _))⟩
        case measure => first | (simp [intOf]; done) | (simp [intOf]; omega)
      · obtain ⟨y0, y1⟩ := inB_yes q
        obtain ⟨z, rfl⟩ : ∃ z : Nat, y = (z : Int) := ⟨y.toNat, by omega⟩
        have HN : Hid ((f ||| 2 ^ z : Nat) = setN x U (j + 1)) := by show _ = _; rw [HS.out, q]; simp
        rw [q] at HW
        have ho : bits .or .i64 (f : Int) (wrap64 (2 ^ z)) = ((f ||| 2 ^ z : Nat) : Int) := or_i64w f z HL.out (by omega)
        have z1 : (z : Int) < 62 := by omega
        go_wp2_with fail
        go_quiet (first | (go_at_call 70; refine Calls.quiet_of_same (HW _)))
        go_wp2
        go_roundw
        case rel => exact ⟨j + 1, by omega, by go_num, by rw [← HN.out], by simpa using q0, by simpa using zp, (by repeat (first | with_reducible exact Below.refl _ _ | with_reducible exact hB | with_reducible refine Below.setCell ?_ (by first | omega | (simp; done) | (simp; omega)) _ | with_reducible refine bDrewN ?_ _ | with_reducible refine Below.drew ?_ | with_reducible refine Below.alloc ?_ (by first | omega | (simp; done) | (simp; omega)) _))⟩
        case measure => first | (simp [intOf]; done) | (simp [intOf]; omega)
    · obtain rfl : j = m := by omega
      go_wp2
      go_ret
      exact ⟨rfl, (by repeat (first | with_reducible exact Below.refl _ _ | with_reducible exact hB | with_reducible refine Below.setCell ?_ (by first | omega | (simp; done) | (simp; omega)) _ | with_reducible refine bDrewN ?_ _ | with_reducible refine Below.drew ?_ | with_reducible refine Below.alloc ?_ (by first | omega | (simp; done) | (simp; omega)) _))⟩
theorem gone_at {base k b x n : Nat} {X : Nat → Int} {K : Nat → Nat} {V : Nat → Nat → Int} {w wr : World} {v : Value} (h : MadeB base w wr v k (fun i => (fl b x X K V n).testBit i)) (hk : 0 < k) : ∃ g cap, v = .slice (some ⟨g, 0, none⟩) k cap ∧ g < wr.heap.size ∧ base ≤ g ∧ ∀ i, i < k → wr.cell? ⟨g, i, none⟩ = some (.bool ((fl b x X K V n).testBit i)) := by
  obtain ⟨s, cap, e, ho⟩ := madeB_own h
  obtain ⟨g, e1, hb, hl, -, -⟩ := ho 0 hk
  refine ⟨g, cap, by rw [e, e1], hl, hb, fun i hi => ?_⟩
  obtain ⟨g', e2, _, _, hc, _⟩ := ho i hi
  rw [e1] at e2
  cases e2
  exact hc
set_option maxRecDepth 20000 in
set_option maxHeartbeats 8000000 in
theorem l23Fails_any (b x : Nat) (s : Option Addr) (n c : Nat) (X : Nat → Int) (K : Nat → Nat) (V : Nat → Nat → Int) (w : World) (ht : Hid (treeB (x : Int) n X K V = true)) (hb : Hid (b < 2 ^ x)) (HR : Hid (RowGat w s n X K V)) :
    Calls Try.prog 60 #[.agg #[.int .i64 (x : Int), .slice s n c], .int .i64 (b : Int)] w fun e w' => e = .returned (.bool (faB b x n X K V)) ∧ Below w.heap.size w w' := by
  obtain ⟨⟨x0, x1⟩, ⟨n0, n1⟩, HG0⟩ := tree_yes ht.out
  have HG : Hid (∀ j, j < n → gatB (x + j - 1) (X j) (K j) (V j) = true) := HG0
  have HB0 : Hid (b < 2 ^ 62) := by
    have h1 := hb.out
    have h2 : 2 ^ x ≤ 2 ^ 62 := Nat.pow_le_pow_right (by decide) (by omega)
    show b < 2 ^ 62
    omega
  clear HG0
  go_enter Try.func60, Try.ntmps60
  go_upto_region 2 with fail
  obtain ⟨wd, hwd⟩ : ∃ wd, wd = w.alloc (.cells #[.int .i64 (x : Int), .slice s n c] 26) := ⟨_, rfl⟩
  rw [← hwd]
  have B0 : Below w.heap.size w wd := by rw [hwd]; exact (by repeat (first | with_reducible exact Below.refl _ _ | with_reducible refine Below.setCell ?_ (by first | omega | (simp; done) | (simp; omega)) _ | with_reducible refine bDrewN ?_ _ | with_reducible refine Below.drew ?_ | with_reducible refine Below.alloc ?_ (by first | omega | (simp; done) | (simp; omega)) _))
  have p0 : wd.cell? ⟨w.heap.size, 0, none⟩ = some (.int .i64 (x : Int)) := by rw [hwd]; simp [go_sem]
  have p1 : wd.cell? ⟨w.heap.size, 1, none⟩ = some (.slice s n c) := by rw [hwd]; simp [go_sem]
  have HZD : Hid (wd.heap.size = w.heap.size + 1) := by show wd.heap.size = _; rw [hwd]; simp
  have zd : w.heap.size < wd.heap.size := by have := HZD.out; omega
  clear hwd
  have HD : Hid (Below w.heap.size w wd) := B0
  have HM0 : Hid (MadeB wd.heap.size wd (wd.alloc (.cells #[] 4)) (.slice (some ⟨w.heap.size + 1, 0, none⟩) 0 0) 0 (fun i => (fl b x X K V n).testBit i)) := by
    rw [← HZD.out]
    exact madeB_lit wd _ (Nat.le_refl _)
  have HP : Hid (wd.cell? ⟨w.heap.size, 0, none⟩ = some (.int .i64 (x : Int)) ∧ wd.cell? ⟨w.heap.size, 1, none⟩ = some (.slice s n c)) := ⟨p0, p1⟩
  clear p0 p1 B0
  go_wp2_with fail
  go_loopw [5, 6] (fun v i wr => ∃ k : Nat, k ≤ x ∧ i = .int .i64 k ∧ Hid (MadeB wd.heap.size wd wr v k (fun i => (fl b x X K V n).testBit i))) (fun _ i _ => x - (intOf i).toNat)
  case atStart => exact ⟨0, Nat.zero_le _, rfl, HM0.out⟩
  case round =>
    obtain ⟨k, hk, rfl, HM⟩ := hrel
    have hB : Below wd.heap.size wd wr := HM.out.2
    have zB := hB.size
    have q0 := (hB.cell (p := ⟨w.heap.size, 0, none⟩) (show w.heap.size < wd.heap.size by omega)).trans HP.out.1
    have q1 := (hB.cell (p := ⟨w.heap.size, 1, none⟩) (show w.heap.size < wd.heap.size by omega)).trans HP.out.2
    have zp : w.heap.size < wr.heap.size := by omega
    by_cases h1 : k < x
    · have k1 : (k : Int) < (x : Int) := by omega
      have hbit := bit_i64 b k HB0.out
      have HE : Hid (b.testBit k = (fl b x X K V n).testBit k) := (fl_bit (k := 0) (m := n) (by omega) (Nat.zero_le _)).symm
      have HO : Hid (wr.ownsRow wd.heap.size 4 1 u5 k (valB (fun i => (fl b x X K V n).testBit i) k)) := HM.out.1
      go_wp2_with (at_builtin; refine list_bool wd.heap.size u5 k (valB (fun i => (fl b x X K V n).testBit i) k) (.tmp 17) (.tmp 24) (by rfl) (by rfl) (by rfl) (by rfl) HO.out (by omega) zB ?_; intro g' cap' w7 hown7 hgrow7 hlt7)
      go_roundw
      case rel => exact ⟨k + 1, by omega, by go_num, madeB_on HM.out (Below.refl _ _) zB (by rw [← HE.out]; exact hown7) hgrow7⟩
      case measure => first | (simp [intOf]; done) | (simp [intOf]; omega)
    · obtain rfl : k = x := by omega
      have HMK : Hid (MadeB wd.heap.size wd wr u5 (k + 0) (fun i => (fl b k X K V n).testBit i)) := HM.out
      clear HM HM0
      go_wp2_with fail
      clear q0 q1 hB zB zp
      go_loopw [5, 7] (fun v i wr => ∃ j : Nat, j ≤ n ∧ i = .int .i64 j ∧ Hid (MadeB wd.heap.size wd wr v (k + j) (fun i => (fl b k X K V n).testBit i))) (fun _ i _ => n - (intOf i).toNat)
      case atStart => exact ⟨0, Nat.zero_le _, rfl, HMK.out⟩
      case round =>
        clear HMK
        obtain ⟨j, hj, rfl, HM⟩ := hrel
        rename_i wr
        have hB : Below wd.heap.size wd wr := HM.out.2
        have zB := hB.size
        have q0 := (hB.cell (p := ⟨w.heap.size, 0, none⟩) (show w.heap.size < wd.heap.size by omega)).trans HP.out.1
        have q1 := (hB.cell (p := ⟨w.heap.size, 1, none⟩) (show w.heap.size < wd.heap.size by omega)).trans HP.out.2
        have zp : w.heap.size < wr.heap.size := by omega
        obtain ⟨gg, gc, rfl, zgg, lgg, hgone⟩ := gone_at HM.out (by omega)
        have HGO : Hid (∀ i, i < k + j → wr.cell? ⟨gg, i, none⟩ = some (.bool ((fl b k X K V n).testBit i))) := hgone
        clear hgone
        have HBW : Hid (Below w.heap.size w wr) := HD.out.trans (hB.mono (by omega))
        by_cases h2 : j < n
        · obtain ⟨g, o, a, d, rfl, hg, c0, c1, hr⟩ := HR.out j h2
          replace c0 := (HBW.out.cell (p := ⟨g, o + j * 2, none⟩) hg).trans c0
          replace c1 := (HBW.out.cell (p := ⟨g, o + j * 2 + 1, none⟩) hg).trans c1
          have HI : Hid (RowI wr a (K j) (V j)) := hr.below HBW.out
          have zg : g < wr.heap.size := Nat.lt_of_lt_of_le hg HBW.out.size
          obtain ⟨⟨k0, k12⟩, -, -, hv⟩ := gat_yes (HG.out j h2)
          have HV : Hid (∀ i, i < K j → 0 ≤ V j i ∧ V j i < (k : Int) + j) := fun i hi => by have := hv i hi; omega
          have HCS : Hid (cntB (fl b k X K V n) (V j) (K j) = cntB (fl b k X K V j) (V j) (K j)) := cnt_same fun i hi => by have := hv i hi; exact fl_bit (by omega) (by omega)
          have HW : Hid ((fl b k X K V n).testBit (k + j) = decide (X j ≤ cntB (fl b k X K V j) (V j) (K j))) := fl_new hb.out h2
          obtain ⟨y, hy⟩ : ∃ y, X j = y := ⟨_, rfl⟩
          obtain ⟨m, hm⟩ : ∃ m, K j = m := ⟨_, rfl⟩
          rw [hy] at c0 HW
          rw [hm] at c1 HI HV HCS HW k12
          have j1 : (j : Int) < (n : Int) := by omega
          clear hr hv hg hy hm k0
          go_wp2_with fail
          go_loopw [8, 9] (fun v i ws => ∃ l : Nat, l ≤ m ∧ i = .int .i64 l ∧ v = .int .i64 (cntB (fl b k X K V n) (V j) l) ∧ ws = wr) (fun _ i _ => m - (intOf i).toNat)
          case atStart => exact ⟨0, Nat.zero_le _, rfl, rfl, rfl⟩
          case round =>
            obtain ⟨l, hl, rfl, rfl, rfl⟩ := hrel
            have cb := cnt_bound (fl b k X K V n) (V j) l
            by_cases h3 : l < m
            · obtain ⟨ga, oa, rfl, hga, d0⟩ := HI.out l h3
              obtain ⟨y0, y1⟩ := HV.out l h3
              obtain ⟨z, hz⟩ : ∃ z : Nat, V j l = (z : Int) := ⟨(V j l).toNat, by omega⟩
              have e0 := HGO.out z (by omega)
              have HS : Hid (cntB (fl b k X K V n) (V j) (l + 1) = cntB (fl b k X K V n) (V j) l + (if (fl b k X K V n).testBit z = true then 1 else 0)) := by
                show cntB (fl b k X K V n) (V j) l + (if (fl b k X K V n).testBit (V j l).toNat = true then 1 else 0) = _
                rw [hz, Int.toNat_natCast]
              rw [hz] at d0
              have z1 : (z : Int) < (k : Int) + (j : Int) := by omega
              have z2 : (z : Int) < ((k + j : Nat) : Int) := by omega
              have l1 : (l : Int) < (m : Int) := by omega
              obtain ⟨r, hr⟩ : ∃ r, cntB (fl b k X K V n) (V j) l = r := ⟨_, rfl⟩
              rw [hr] at HS cb ⊢
              clear hr hz y0 y1
              cases q : (fl b k X K V n).testBit z
              · have HN : Hid (r = cntB (fl b k X K V n) (V j) (l + 1)) := by show _ = _; rw [HS.out, q]; simp
                rw [q] at e0
                go_wp2
                go_roundw
                case rel => exact ⟨l + 1, by omega, by go_num, by rw [HN.out], by first | rfl | trivial⟩
                case measure => first | (simp [intOf]; done) | (simp [intOf]; omega)
              · have HN : Hid (r + 1 = cntB (fl b k X K V n) (V j) (l + 1)) := by show _ = _; rw [HS.out, q]; simp
                rw [q] at e0
                go_wp2
                go_roundw
                case rel => exact ⟨l + 1, by omega, by go_num, by rw [← HN.out], by first | rfl | trivial⟩
                case measure => first | (simp [intOf]; done) | (simp [intOf]; omega)
            · obtain rfl : l = m := by omega
              have HX : Hid (decide (y ≤ cntB (fl b k X K V n) (V j) l) = (fl b k X K V n).testBit (k + j)) := by show _ = _; rw [HW.out, HCS.out]
              have HO : Hid (World.ownsRow _ wd.heap.size 4 1 (.slice (some ⟨gg, 0, none⟩) (k + j) gc) (k + j) (valB (fun i => (fl b k X K V n).testBit i) (k + j))) := HM.out.1
              go_wp2_with (at_builtin; refine list_bool wd.heap.size _ (k + j) (valB (fun i => (fl b k X K V n).testBit i) (k + j)) (.tmp 58) (.tmp 67) (by rfl) (by rfl) (by rfl) (by rfl) HO.out (by omega) zB ?_; intro g' cap' w7 hown7 hgrow7 hlt7)
              go_roundw
              case rel => exact ⟨j + 1, by omega, by go_num, (show MadeB _ _ _ _ (k + j + 1) _ from madeB_on (k := k + j) HM.out (Below.refl _ _) zB (by rw [← HX.out]; exact hown7) hgrow7)⟩
              case measure => first | (simp [intOf]; done) | (simp [intOf]; omega)
        · obtain rfl : j = n := by omega
          have e0 := HGO.out (k + j - 1) (by omega)
          have ee : ((k + j : Nat) : Int) - 1 = ((k + j - 1 : Nat) : Int) := by omega
          obtain ⟨r, hr⟩ : ∃ r, k + j - 1 = r := ⟨_, rfl⟩
          have e1 : ((k + j : Nat) : Int) - 1 = (r : Int) := by omega
          have e2 : (k : Int) + (j : Int) - 1 = (r : Int) := by omega
          have r1 : (r : Int) < ((k + j : Nat) : Int) := by omega
          have r2 : (r : Int) < (k : Int) + (j : Int) := by omega
          have HO : Hid ((fl b k X K V j).testBit r = faB b k j X K V) := by show _ = _; unfold faB; rw [hr]
          rw [hr] at e0
          clear hr ee
          go_wp2
          go_ret
          exact ⟨ret_bool HO.out, HBW.out⟩
end Go.Proofs.Ytpaiajeigdifcaa
