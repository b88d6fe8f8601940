/-
What is proved: limits that are drawn from any code and served for any moments are told late once; no condition.
-/
import Derived.Test.YtmoeoepinlcmdaaDoorLmE
import Derived.Test.YtmoeoepinlcmdaaDoorZaA
import Derived.Test.YtmoeoepinlcmdaaDoorCkI
import Derived.Test.YtmoeoepinlcmdaaDoorCkS
import Derived.Test.YtmoeoepinlcmdaaDoorZaB
import Derived.Deep.RegionHeldLaw
import Derived.Deep.DeepCutAuto
import Derived.BigQuiet

namespace Go.Proofs.YtmoeoepinlcmdaaDoor
set_option maxRecDepth 40000
open Go.ChangeShapes Go.WideShapes Go.ChangeAt Go.RowKit
set_option linter.unusedVariables false
set_option linter.unusedSimpArgs false

theorem make_boolL (n : Nat) (hn : n ≤ 1048576) (w : World) : (Instr.makeSlice 33 (.int .i64 (n : Int)) (.int .i64 (n : Int))).run Tryd.prog w = .ok (.slice (some ⟨w.heap.size, 0, none⟩) n n) (w.alloc (.cells (madeCells #[.bool false] n) 4)) := by
  have hinfo : (Tryd.prog.info? 4).map (fun i => (i.zero, i.size, i.bytes)) = some (some (.bool false), 1, 1) := by kernel_rfl
  obtain ⟨i, hi, hzz⟩ := Option.map_eq_some_iff.1 hinfo
  simp only [Prod.mk.injEq] at hzz
  obtain ⟨hz, hs, hb⟩ := hzz
  have hr := run_make (P := Tryd.prog) w 33 4 i _ Tryd.underlying33 hi hz .i64 .i64 n n (by omega) (Int.le_refl _) (by rw [hb]; omega) (by omega)
  simp only [Int.toNat_natCast, hs, Nat.mul_one] at hr
  exact hr
theorem make_i64L (n : Nat) (hn : n ≤ 1048576) (w : World) : (Instr.makeSlice 34 (.int .i64 (n : Int)) (.int .i64 (n : Int))).run Tryd.prog w = .ok (.slice (some ⟨w.heap.size, 0, none⟩) n n) (w.alloc (.cells (madeCells #[.int .i64 0] n) 2)) := by
  have hinfo : (Tryd.prog.info? 2).map (fun i => (i.zero, i.size, i.bytes)) = some (some (.int .i64 0), 1, 8) := by kernel_rfl
  obtain ⟨i, hi, hzz⟩ := Option.map_eq_some_iff.1 hinfo
  simp only [Prod.mk.injEq] at hzz
  obtain ⟨hz, hs, hb⟩ := hzz
  have hr := run_make (P := Tryd.prog) w 34 2 i _ Tryd.underlying34 hi hz .i64 .i64 n n (by omega) (Int.le_refl _) (by rw [hb]; omega) (by omega)
  simp only [Int.toNat_natCast, hs, Nat.mul_one] at hr
  exact hr
theorem limit_B {w w' : World} {B : Nat} {s : Option Addr} {n : Nat} {V : Nat → Int × Int} (h : RowLimit w s n V) (hb : Below B w w') (hB : B ≤ w.heap.size) (hz : ∀ g o, s = some ⟨g, o, none⟩ → g < B ∨ n = 0) : RowLimit w' s n V := fun j hj => by
  obtain ⟨b, o, e, hl, c0, c1⟩ := h j hj
  have hlt : b < B := (hz b o e).elim id (fun z => by omega)
  exact ⟨b, o, e, Nat.lt_of_lt_of_le hl hb.size, (hb.cell (p := ⟨b, o + j * 2, none⟩) hlt).trans c0, (hb.cell (p := ⟨b, o + j * 2 + 1, none⟩) hlt).trans c1⟩
theorem ckL_own {base : Nat} {w : World} {v : Value} {k : Nat} {U : Nat → Int × Bool} (h : w.ownsRow base 29 2 v k (ckL U k)) : ∃ t cap, v = .slice t k cap ∧ OwnClock base w t k U := by
  have h' := h
  rcases h.2 with ⟨rfl, rfl⟩ | ⟨g, cap, cur, rfl, hb, hg, _⟩
  · exact ⟨none, 0, rfl, fun j hj => by omega⟩
  · refine ⟨some ⟨g, 0, none⟩, cap, rfl, fun j hj => ⟨g, rfl, hb, (Array.getElem?_eq_some_iff.1 hg).1, h'.frozenAt, ?_, ?_⟩⟩
    · rw [h'.cellAt (j * 2) (by omega)]; exact (ckL_at U k j hj).1
    · rw [h'.cellAt (j * 2 + 1) (by omega)]; exact (ckL_at U k j hj).2
theorem made_B (w : World) (n : Nat) (t : TypeId) : RowB (w.alloc (.cells (madeCells #[.bool false] n) t)) (some ⟨w.heap.size, 0, none⟩) n (fun _ => false) := fun j hj => by
  refine ⟨w.heap.size, 0, rfl, by simp, ?_⟩
  have hm : (madeCells #[.bool false] n)[j]? = some (.bool false) := by
    simp only [madeCells, Array.getElem?_map, Array.getElem?_range, hj, if_true, Option.map_some]
    show some ((#[Value.bool false] : Array Value)[j % 1]!) = _
    rw [Nat.mod_one]; rfl
  rw [Nat.zero_add]
  simpa [go_sem] using hm
theorem made_I (w : World) (n : Nat) (t : TypeId) : RowI (w.alloc (.cells (madeCells #[.int .i64 0] n) t)) (some ⟨w.heap.size, 0, none⟩) n (fun _ => 0) := fun j hj => by
  refine ⟨w.heap.size, 0, rfl, by simp, ?_⟩
  have hm : (madeCells #[.int .i64 0] n)[j]? = some (.int .i64 0) := by
    simp only [madeCells, Array.getElem?_map, Array.getElem?_range, hj, if_true, Option.map_some]
    show some ((#[Value.int .i64 0] : Array Value)[j % 1]!) = _
    rw [Nat.mod_one]; rfl
  rw [Nat.zero_add]
  simpa [go_sem] using hm
def c0L (_ : Nat) : Int × Bool := (-1, false)
set_option maxRecDepth 20000 in
set_option maxHeartbeats 16000000 in
theorem late_near (w : World) (s s' : Option Addr) (n c n' c' : Nat) (hn : (n : Int) ≤ 1048576) (hn' : (n' : Int) ≤ 1048576) (HE : Hid (ErrC w)) (HC8 : Hid (Code8 w s n)) (HD8 : Hid (Code8 w s' n')) :
    Calls Tryd.prog 3 #[.slice s n c, .slice s' n' c'] w fun e w' => e = .returned (.bool true) ∧ Below w.heap.size w w' := by
  go_enter Tryd.func3, Tryd.ntmps3
  go_wp2_with fail
  refine (big_no _ _ _ _ hn).mono ?_
  rintro e w1 ⟨rfl, rfl⟩
  rename World => w
  go_wp2_with fail
  refine (big_no _ _ _ _ hn').mono ?_
  rintro e w1 ⟨rfl, rfl⟩
  rename World => w
  go_wp2_with fail
  refine (drawSoonestLate_any HC8).mono ?_
  rintro e w2 ⟨t, nl, cap, V, cv, rfl, n1, n2, RW, HB0, LB⟩
  have HR : Hid (RowLimit w2 t nl V) := RW
  have HB : Hid (Below w.heap.size w w2) := HB0
  have HD : Hid (Code8 w2 s' n') := HD8.out.below HB0
  have HLB : Hid (∀ g o, t = some ⟨g, o, none⟩ → w.heap.size ≤ g) := LB
  clear RW HB0 LB HC8
  go_upto_region 5 with fail
  obtain ⟨w3, hw3⟩ : ∃ z, z = w2.alloc (.cells #[] 29) := ⟨_, rfl⟩
  rw [← hw3]
  obtain ⟨bc, hbc⟩ : ∃ z, z = w2.heap.size := ⟨_, rfl⟩
  have HR3 : Hid (RowLimit w3 t nl V) := by show RowLimit _ _ _ _; rw [hw3]; exact HR.out.below (below0 _ _)
  have HB3 : Hid (Below w.heap.size w w3) := by rw [hw3]; exact HB.out.trans ((below0 w2 _).mono HB.out.size)
  have HD3 : Hid (Code8 w3 s' n') := by rw [hw3]; exact HD.out.below (below0 _ _)
  have HC3 : Hid (w3.ownsRow bc 29 2 (.slice (some ⟨bc, 0, none⟩) 0 0) 0 (ckL c0L 0)) := by
    show World.ownsRow _ _ _ _ _ _ _
    rw [hw3, hbc]
    have q := World.ownsRow_lit (base := w2.heap.size) (size := 2) (e := 29) w2 #[] 0 (Nat.le_refl _) (by simp [maxLen]) (by simp)
    simpa [ckL] using q
  have HZ : Hid (w.heap.size ≤ bc ∧ bc < w3.heap.size ∧ ∀ g o, t = some ⟨g, o, none⟩ → g < bc ∨ nl = 0) := ⟨by rw [hbc]; exact HB.out.size, by rw [hw3, hbc]; simp, fun g o e => by
    rcases Nat.eq_zero_or_pos nl with z | z
    · exact .inr z
    · obtain ⟨g', o', e', hg, -⟩ := HR.out 0 z
      rw [e] at e'; cases e'; rw [hbc]; exact .inl hg⟩
  try rw [← hbc]
  clear hw3 hbc HR HB HD
  go_wp2_with fail
  go_loopw [7, 8] (fun u v wr => ∃ (k : Nat) (cl : Value), cl = u ∧ v = .int .i64 (k : Int) ∧ k ≤ nl ∧ Hid (Below bc w3 wr) ∧ Hid (wr.ownsRow bc 29 2 cl k (ckL c0L k)) ∧ bc ≤ wr.heap.size) (fun _ v _ => nl - (intOf v).toNat)
  case atStart => exact ⟨0, _, rfl, rfl, Nat.zero_le _, (Below.refl _ _), HC3, by have := HZ.out; omega⟩
  case round =>
    clear HC3
    obtain ⟨k, cl, rfl, rfl, hk, HBk, HCk, zbk⟩ := hrel
    rename World => wr
    by_cases hl : k < nl
    case pos =>
      have li : (k : Int) < (nl : Int) := by omega
      go_wp2_with (at_builtin; refine list_Clock (x0 := -1) (x1 := false) bc cl k (ckL c0L k) (.tmp 42) (.tmp 44) (by rfl) (by rfl) (by rfl) (by rfl) HCk.out (by omega) zbk ?_; intro g1 cap1 w6 hown hgrow hlt hat; have HC6 : Hid (w6.ownsRow bc 29 2 (.slice (some ⟨g1, 0, none⟩) (k + 1) cap1) (k + 1) (ckL c0L (k + 1))) := hown; have HB6 : Hid (Below bc w3 w6) := HBk.out.trans (grown_below hgrow zbk (own_block HCk.out)); have z6 : bc ≤ w6.heap.size := Nat.le_trans zbk hgrow.size; clear hown hgrow hlt hat)
      go_roundw
      case rel => exact ⟨k + 1, _, rfl, by go_num, by omega, HB6, HC6, z6⟩
      case measure => simp [intOf]; omega
    case neg =>
      obtain rfl : k = nl := by omega
      have li : ¬ (k : Int) < (k : Int) := by omega
      have hmk : ∀ w' : World, (Instr.makeSlice 33 (.int .i64 (k : Int)) (.int .i64 (k : Int))).run Tryd.prog w' = .ok (.slice (some ⟨w'.heap.size, 0, none⟩) k k) (w'.alloc (.cells (madeCells #[.bool false] k) 4)) := fun w' => make_boolL k (by omega) w'
      obtain ⟨tc, cc, rfl, HOC⟩ := ckL_own HCk.out
      obtain ⟨w4, hw4⟩ : ∃ z, z = wr.alloc (.cells (madeCells #[.bool false] k) 4) := ⟨_, rfl⟩
      have b4 : Below wr.heap.size wr w4 := by rw [hw4]; exact below0 _ _
      have HR4 : Hid (RowLimit w4 t k V) := (limit_B HR3.out HBk.out (Nat.le_of_lt HZ.out.2.1) HZ.out.2.2).below b4
      have HU4 : Hid (RowClock w4 tc k c0L) := HOC.row.below b4
      have HO4 : Hid (RowB w4 (some ⟨wr.heap.size, 0, none⟩) k (fun _ => false)) := by show RowB _ _ _ _; rw [hw4]; exact made_B _ _ _
      go_wp2_with fail
      rw [← hw4]
      refine (specClockStep_any t tc (some ⟨wr.heap.size, 0, none⟩) k cap k cc k k V c0L 0 (fun _ => false) w4 (by omega) (by omega) HR4 HU4 HO4).mono ?_
      rintro e w5 ⟨sa, ca, sb, cb, rfl, -, -, -, b5⟩
      obtain ⟨fine, hfine⟩ : ∃ z, ckB k V k c0L 0 k (fun _ => false) = z := ⟨_, rfl⟩
      rw [hfine]
      have HF : Hid (ckB k V k c0L 0 k (fun _ => false) = fine) := hfine
      have HR5 : Hid (RowLimit w5 t k V) := HR4.out.below b5
      have HU5 : Hid (RowClock w5 tc k c0L) := HU4.out.below b5
      have HB5 : Hid (Below w.heap.size w w5) := (HB3.out.trans (HBk.out.mono HZ.out.1)).trans ((b4.mono (Nat.le_trans HZ.out.1 zbk)).trans (b5.mono (Nat.le_trans (Nat.le_trans HZ.out.1 zbk) b4.size)))
      clear hfine b4 b5 hw4 HR4 HU4 HO4 hmk HOC HCk HR3
      have hmi : ∀ w' : World, (Instr.makeSlice 34 (.int .i64 (k : Int)) (.int .i64 (k : Int))).run Tryd.prog w' = .ok (.slice (some ⟨w'.heap.size, 0, none⟩) k k) (w'.alloc (.cells (madeCells #[.int .i64 0] k) 2)) := fun w' => make_i64L k (by omega) w'
      go_upto_region 12 with fail
      obtain ⟨w6, hw6⟩ : ∃ z, z = (w5.alloc (.cells (madeCells #[.int .i64 0] k) 2)).alloc (.cells (madeCells #[.int .i64 0] k) 2) := ⟨_, rfl⟩
      rw [← hw6]
      obtain ⟨bl, hbl⟩ : ∃ z, z = w5.heap.size := ⟨_, rfl⟩
      obtain ⟨br, hbr⟩ : ∃ z, z = w5.heap.size + 1 := ⟨_, rfl⟩
      have c5 : Below w5.heap.size w5 (w5.alloc (.cells (madeCells #[.int .i64 0] k) 2)) := below0 _ _
      have c6 : Below (w5.alloc (.cells (madeCells #[.int .i64 0] k) 2)).heap.size (w5.alloc (.cells (madeCells #[.int .i64 0] k) 2)) w6 := by rw [hw6]; exact below0 _ _
      have z5 : (w5.alloc (.cells (madeCells #[.int .i64 0] k) 2)).heap.size = br := by rw [hbr]; simp
      have HL6 : Hid (OwnI bl w6 (some ⟨bl, 0, none⟩) k (fun _ => 0)) := by
        have q := (made_O bl w5 k 2 (Nat.le_of_eq hbl)).below c6
        rw [← hbl] at q; exact q
      have HN6 : Hid (OwnI bl w6 (some ⟨br, 0, none⟩) k (fun _ => 0)) := by
        have q := made_O bl (w5.alloc (.cells (madeCells #[.int .i64 0] k) 2)) k 2 (by rw [hbl]; exact c5.size)
        rw [z5] at q
        rw [hw6]; exact q
      have HR6 : Hid (RowLimit w6 t k V) := (HR5.out.below c5).below c6
      have HU6 : Hid (RowClock w6 tc k c0L) := (HU5.out.below c5).below c6
      have HB6 : Hid (Below w.heap.size w w6) := HB5.out.trans ((c5.mono HB5.out.size).trans (c6.mono (Nat.le_trans HB5.out.size c5.size)))
      have zbl : w.heap.size ≤ bl := by rw [hbl]; exact HB5.out.size
      have zlr : bl < br := by rw [hbl, hbr]; omega
      have zr6 : br < w6.heap.size := by rw [hw6, ← z5]; simp
      obtain ⟨tb, ot, et, ztb, -⟩ := HR5.out 0 (by omega)
      obtain ⟨cb, co, ec, zcb, -⟩ := HU5.out 0 (by omega)
      rw [← hbl] at ztb zcb
      try rw [← hbr]
      try rw [← hbl]
      clear hw6 hbl hbr c5 c6 z5 HR5 HU5 HB5 HLB HZ HB3 HD3 HBk zbk hmi li
      subst et
      subst ec
      go_wp2_with fail
      obtain ⟨xr, hxr⟩ : ∃ z : World, z = w6 := ⟨_, rfl⟩
      go_loopw [7, 14] (fun u v wr => ∃ (i cb co cc : Nat) (U : Nat → Int × Bool) (la ra : Nat → Int), u = .slice (some ⟨cb, co, none⟩) k cc ∧ v = .int .i64 (i : Int) ∧ i ≤ 60 ∧ i ≤ n' ∧ cb ≠ bl ∧ cb ≠ br ∧ Hid (RowLimit wr (some ⟨tb, ot, none⟩) k V) ∧ Hid (RowClock wr (some ⟨cb, co, none⟩) k U) ∧ Hid (OwnI bl wr (some ⟨bl, 0, none⟩) k la) ∧ Hid (OwnI bl wr (some ⟨br, 0, none⟩) k ra) ∧ Hid (Below w.heap.size w wr) ∧ Hid (ckB k V k U 0 k (fun _ => false) = fine) ∧ Hid (fine = true → StA k V U la ra) ∧ Hid (∀ j, 0 ≤ ra j ∧ ra j ≤ (i : Int)) ∧ br < wr.heap.size) (fun _ v _ => 60 - (intOf v).toNat)
      case atStart => exact ⟨0, cb, co, cc, c0L, fun _ => 0, fun _ => 0, rfl, rfl, by omega, Nat.zero_le _, by omega, by omega, HR6, HU6, HL6, HN6, HB6, HF, (fun e => sta_start (lim_ok (HF.out.trans e)) (fun _ => rfl)), (fun _ => ⟨Int.le_refl _, Int.le_refl _⟩), zr6⟩
      case round =>
        obtain ⟨i, cb', co', cc', U, la, ra, rfl, rfl, hi, hin, cbl, cbr, HRr, HUr, HLr, HNr, HBr, HCr, HSr, HKr, zr⟩ := hrel
        clear HR6 HU6 HL6 HN6 HB6 zr6 hxr xr
        by_cases h1 : i < n'
        case neg =>
          have l1 : ¬ (i : Int) < (n' : Int) := by omega
          have hb := HBr.out
          go_wp2
          go_ret
          exact ⟨rfl, (by repeat (first | with_reducible exact Below.refl _ _ | with_reducible exact hb | with_reducible refine Below.setCell ?_ (by first | omega | (simp; done) | (simp; omega)) _ | with_reducible refine bDrewN ?_ _ | with_reducible refine Below.drew ?_ | with_reducible refine Below.alloc ?_ (by first | omega | (simp; done) | (simp; omega)) _))⟩
        case pos =>
        have l1 : (i : Int) < (n' : Int) := by omega
        by_cases h2 : i < 60
        case neg =>
          have l2 : ¬ (i : Int) < 60 := by omega
          have hb := HBr.out
          go_wp2
          go_ret
          exact ⟨rfl, (by repeat (first | with_reducible exact Below.refl _ _ | with_reducible exact hb | with_reducible refine Below.setCell ?_ (by first | omega | (simp; done) | (simp; omega)) _ | with_reducible refine bDrewN ?_ _ | with_reducible refine Below.drew ?_ | with_reducible refine Below.alloc ?_ (by first | omega | (simp; done) | (simp; omega)) _))⟩
        case pos =>
        have l2 : (i : Int) < 60 := by omega
        obtain ⟨gb, ob, x, eb, zg, cx, x0, x1⟩ := (HD8.out.below HBr.out).2 i h1
        subst eb
        obtain ⟨O, hO⟩ : ∃ O : Nat → Bool, ∀ j : Nat, O j = ((x + (j : Int)) % 4 != 0) := ⟨fun j => ((x + (j : Int)) % 4 != 0), fun _ => rfl⟩
        have HO : Hid (∀ j : Nat, O j = ((x + (j : Int)) % 4 != 0)) := hO
        clear hO
        go_upto_region 16 with fail
        obtain ⟨w7, hw7⟩ : ∃ z, z = wr.alloc (.cells #[] 4) := ⟨_, rfl⟩
        rw [← hw7]
        obtain ⟨b7, hb7⟩ : ∃ z, z = wr.heap.size := ⟨_, rfl⟩
        have HM7 : Hid (MadeB b7 wr w7 (.slice (some ⟨b7, 0, none⟩) 0 0) 0 O) := by
          have q := madeB_lit wr O (base := wr.heap.size) (Nat.le_refl _)
          rw [← hw7, ← hb7] at q
          exact q
        have z7 : b7 ≤ w7.heap.size := by rw [hw7, hb7]; simp
        try rw [← hb7]
        have HZ7 : Hid (b7 = wr.heap.size) := hb7
        clear hw7 hb7
        go_wp2_with fail
        go_loopw [15, 16] (fun v q wx => ∃ j : Nat, j ≤ k ∧ q = .int .i64 (j : Int) ∧ Hid (MadeB b7 wr wx v j O) ∧ b7 ≤ wx.heap.size) (fun _ q _ => k - (intOf q).toNat)
        case atStart => exact ⟨0, Nat.zero_le _, rfl, HM7, z7⟩
        case round =>
          clear HM7 z7
          obtain ⟨j, hj, rfl, HMj, zj⟩ := hrel
          rename World => wx
          by_cases h3 : j < k
          case pos =>
            have l3 : (j : Int) < (k : Int) := by omega
            have bx : Below wr.heap.size wr wx := by rw [← HZ7.out]; exact HMj.out.2
            have cxx : wx.cell? ⟨gb, ob + i, none⟩ = some (.int .u8 x) := (bx.cell (p := ⟨gb, ob + i, none⟩) zg).trans cx
            have ew : IntKind.i64.wrap (x + (j : Int)) = x + (j : Int) := by rw [IntKind.wrap_i64]; omega
            have HOj : Hid (O j = ((x + (j : Int)) % 4 != 0)) := HO.out j
            clear bx
            go_wp2_with (at_builtin; refine list_bool b7 _ j (valB O j) (.tmp 79) (.tmp 89) (by rfl) (by rfl) (by rfl) (by rfl) HMj.out.1 (by omega) zj ?_; intro g' cap' w8 hown8 hgrow8 hlt8)
            go_roundw
            case rel => exact ⟨j + 1, by omega, by go_num, madeB_on HMj.out (Below.refl _ _) zj (by rw [HOj.out]; exact hown8) hgrow8, Nat.le_trans zj hgrow8.size⟩
            case measure => exact meas_lt h3
          case neg =>
            obtain rfl : j = k := by omega
            obtain ⟨so, cbo, rfl, HOo⟩ := madeB_own HMj.out
            have bx : Below wr.heap.size wr wx := by rw [← HZ7.out]; exact HMj.out.2
            obtain ⟨gf, ef, zf, zfx, -⟩ := HOo 0 (by omega)
            subst ef
            have zf2 : br < gf := by have := HZ7.out; omega
            have HOB : Hid (RowB wx (some ⟨gf, 0, none⟩) j O) := HOo.row
            have HRx : Hid (RowLimit wx (some ⟨tb, ot, none⟩) j V) := HRr.out.below bx
            have HUx : Hid (RowClock wx (some ⟨cb', co', none⟩) j U) := HUr.out.below bx
            have HLx : Hid (OwnI bl wx (some ⟨bl, 0, none⟩) j la) := HLr.out.below bx
            have HNx : Hid (OwnI bl wx (some ⟨br, 0, none⟩) j ra) := HNr.out.below bx
            have HBx : Hid (Below w.heap.size w wx) := HBr.out.trans (bx.mono HBr.out.size)
            have HEx : Hid (ErrC wx) := HE.out.below HBx.out
            have HCx : Hid (ckB j V j U 0 j O = fine) := HCr.out
            have zx : br < wx.heap.size := Nat.lt_of_lt_of_le zr bx.size
            clear HOo bx HMj HRr HUr HLr HNr HBr HCr zf zj HO HD8 zr zg cx x0 x1 HZ7
            have l3 : ¬ (j : Int) < (j : Int) := by omega
            go_wp2_with fail
            refine (implClockStep_any (some ⟨tb, ot, none⟩) (some ⟨cb', co', none⟩) (some ⟨gf, 0, none⟩) j cap j cc' j cbo V U 0 O wx (by omega) (by omega) HRx HUx HOB HEx).mono ?_
            rintro e w8 ⟨sn, cn, st, dn, rfl, hOC, hON, -, b8⟩
            rw [HCx.out]
            have HB8 : Hid (Below w.heap.size w w8) := HBx.out.trans (b8.mono HBx.out.size)
            cases fine
            case false =>
              have hb := HB8.out
              go_wp2
              go_ret
              exact ⟨rfl, (by repeat (first | with_reducible exact Below.refl _ _ | with_reducible exact hb | with_reducible refine Below.setCell ?_ (by first | omega | (simp; done) | (simp; omega)) _ | with_reducible refine bDrewN ?_ _ | with_reducible refine Below.drew ?_ | with_reducible refine Below.alloc ?_ (by first | omega | (simp; done) | (simp; omega)) _))⟩
            case true =>
            have eN : ckN j V j U 0 j O = j := by unfold ckN; rw [HCx.out]; rfl
            obtain ⟨T, hT⟩ : ∃ T, T = ntP (whC V U O 0) j := ⟨_, rfl⟩
            have eT : ckT j V j U 0 j O = T := by unfold ckT; rw [HCx.out, hT]; rfl
            rw [eN] at hOC
            rw [eT] at hON
            rw [eN, eT]
            have HLI : Hid (LimOk j V) := lim_ok HCx.out
            have HST : Hid (StA j V U la ra) := HSr.out rfl
            obtain ⟨U', hU'⟩ : ∃ U', U' = nxC V U O 0 := ⟨_, rfl⟩
            rw [← hU'] at hOC
            obtain ⟨la', hla⟩ : ∃ la', la' = lasP T la T.length := ⟨_, rfl⟩
            have HST' : Hid (StA j V U' la' (ranN V O ra)) := by rw [hU', hla, hT]; exact sta_step HLI.out HST.out
            have HNT : Hid (∀ p, p < T.length → ∃ (q : Nat) (x y : Int), q < j ∧ T.getD p (0, 0) = ((q : Int), x) ∧ lasP T la p q = y ∧ ((x = 1 ∧ y = 0) ∨ (x = 1 ∧ y = 2) ∨ (x = 3 ∧ y = 1) ∨ (x = 2 ∧ y = 1) ∨ (x = 2 ∧ y = 3))) := by rw [hT]; exact fun p hp => note_at HLI.out HST.out hp
            have HLA : Hid (la' = lasP T la T.length) := hla
            have tl : T.length ≤ 60 := by rw [hT]; exact Nat.le_trans (nt_len _ _) HLI.out.1
            obtain ⟨gn, en, zn, znx, -⟩ := hOC 0 (by omega)
            subst en
            have HU8 : Hid (RowClock w8 (some ⟨gn, 0, none⟩) j U') := hOC.row
            have HN8 : Hid (OwnNote wx.heap.size w8 st T.length (fun p => T.getD p (0, 0))) := hON
            have HR8 : Hid (RowLimit w8 (some ⟨tb, ot, none⟩) j V) := HRx.out.below b8
            have HO8 : Hid (RowB w8 (some ⟨gf, 0, none⟩) j O) := HOB.out.below b8
            have HL8 : Hid (OwnI bl w8 (some ⟨bl, 0, none⟩) j la) := HLx.out.below b8
            have HM8 : Hid (OwnI bl w8 (some ⟨br, 0, none⟩) j ra) := HNx.out.below b8
            have z8 : br < w8.heap.size := Nat.lt_of_lt_of_le zx b8.size
            have zgn : br < gn := by omega
            have HZ8 : Hid (br < wx.heap.size) := zx
            clear hOC hON b8 HRx HUx HLx HNx HBx HEx HCx HOB hT eN eT hU' hla HSr HST zn znx zx zfx
            go_wp2_with fail
            go_loopw [20] (fun q wy => ∃ p : Nat, p ≤ T.length ∧ q = .int .i64 (p : Int) ∧ Hid (Beside bl w8 wy) ∧ Hid (OwnI bl wy (some ⟨bl, 0, none⟩) j (lasP T la p))) (fun q _ => T.length - (intOf q).toNat)
            case atStart => exact ⟨0, Nat.zero_le _, rfl, Beside.of (Below.refl _ _), HL8⟩
            case round =>
              clear HL8
              obtain ⟨p, hp, rfl, HBp, HLp⟩ := hrel
              rename World => wy
              by_cases h4 : p < T.length
              case pos =>
                have l4 : (p : Int) < (T.length : Int) := by omega
                obtain ⟨q, x, y, hq, eT, eL, hg⟩ := HNT.out p h4
                obtain ⟨gm, em, zm, zmx, -, d0, d1⟩ := HN8.out p h4
                subst em
                have zgm : bl ≠ gm := by have := HZ8.out; omega
                have d0x : wy.cell? ⟨gm, p * 2, none⟩ = some (.int .i64 (q : Int)) := by
                  have := (HBp.out.cell (p := ⟨gm, p * 2, none⟩) zmx (fun e => zgm e.symm)).trans d0
                  simp only [eT] at this; exact this
                have d1x : wy.cell? ⟨gm, p * 2 + 1, none⟩ = some (.int .i64 x) := by
                  have := (HBp.out.cell (p := ⟨gm, p * 2 + 1, none⟩) zmx (fun e => zgm e.symm)).trans d1
                  simp only [eT] at this; exact this
                obtain ⟨lc, lf, lz⟩ := own_one HLp.out hq
                rw [eL] at lc
                have HLN : Hid ((fun i => if i = q then x else lasP T la p i) = lasP T la (p + 1)) := las_on T la p eT
                have q0 : ¬ (q : Int) < 0 := by omega
                have q1 : ¬ (j : Int) ≤ (q : Int) := by omega
                have q2 : (q : Int) < (j : Int) := by omega
                clear d0 d1 eT eL
                go_upto_region 31 with fail
                go_cut [22] (fun v wx => v = .bool true ∧ wx = wy)
                case first =>
                  clear HLN HNT HST' HLI HB8 HU8 HR8 HO8 HM8 HBp HLp HKr HN8
                  rcases hg with ⟨rfl, rfl⟩ | ⟨rfl, rfl⟩ | ⟨rfl, rfl⟩ | ⟨rfl, rfl⟩ | ⟨rfl, rfl⟩
                  all_goals
                    as_aux_lemma =>
                      go_wp2_with fail
                      go_meet
                      exact ⟨rfl, rfl⟩
                obtain ⟨rfl, hw_⟩ := hcut
                replace hw_ := hw_.symm
                subst hw_
                go_upto_region 34 with fail
                go_wp2_with fail
                go_roundw
                case rel => exact ⟨p + 1, by omega, by go_num, HBp.out.trans (Beside.setCell bl wy q (.int .i64 x)), by have q_ := HLp.out.putN q x; rw [HLN.out] at q_; exact q_⟩
                case measure => exact meas_lt h4
              case neg =>
                obtain rfl : p = T.length := by omega
                have l4 : ¬ ((T.length : Nat) : Int) < ((T.length : Nat) : Int) := by omega
                have HLy : Hid (OwnI bl wy (some ⟨bl, 0, none⟩) j la') := by rw [HLA.out]; exact HLp.out
                have HUy : Hid (RowClock wy (some ⟨gn, 0, none⟩) j U') := HU8.out.bes HBp.out (fun g o e => by cases e; omega)
                have HRy : Hid (RowLimit wy (some ⟨tb, ot, none⟩) j V) := HR8.out.bes HBp.out (fun g o e => by cases e; omega)
                have HOy : Hid (RowB wy (some ⟨gf, 0, none⟩) j O) := HO8.out.bes HBp.out (fun g o e => by cases e; omega)
                have HMy : Hid (OwnI bl wy (some ⟨br, 0, none⟩) j ra) := HM8.out.besN HBp.out (fun g o e => by cases e; omega)
                have HBy : Hid (Below w.heap.size w wy) := HB8.out.trans (HBp.out.below zbl HB8.out.size)
                have zy : br < wy.heap.size := Nat.lt_of_lt_of_le z8 HBp.out.2.2.2.1
                have eK : ¬ ((j : Nat) : Int) ≠ ((j : Nat) : Int) := fun h => h rfl
                clear HBp HLp HU8 HR8 HO8 HM8 HN8 HB8 HLA HNT HZ8 z8
                go_wp2_with fail
                go_loopw [23] (fun q wz => ∃ p : Nat, p ≤ j ∧ q = .int .i64 (p : Int) ∧ Hid (Beside br wy wz) ∧ Hid (OwnI bl wz (some ⟨br, 0, none⟩) j (ranP V O ra p))) (fun q _ => j - (intOf q).toNat)
                case atStart => exact ⟨0, Nat.zero_le _, rfl, Beside.of (Below.refl _ _), own_ran0 HMy.out⟩
                case round =>
                  clear HMy
                  obtain ⟨p, hp, rfl, HBz, HMz⟩ := hrel
                  rename World => wz
                  by_cases h5 : p < j
                  case pos =>
                    --FAST
                    have l5 : (p : Int) < (j : Int) := by omega
                    obtain ⟨_, _, e1, z1, a1⟩ := HOy.out p h5
                    cases e1
                    rw [Nat.zero_add] at a1
                    obtain ⟨_, _, e2, z2, c0, c1⟩ := HRy.out p h5
                    cases e2
                    obtain ⟨_, _, e3, z3, -, u1⟩ := HUy.out p h5
                    cases e3
                    rw [Nat.zero_add] at u1
                    obtain ⟨lc, -, z4⟩ := own_one HLy.out h5
                    obtain ⟨mc, mf, mz⟩ := own_one HMz.out h5
                    rw [ran_at] at mc
                    have a1z := (HBz.out.cell (p := ⟨gf, p, none⟩) z1 (by show gf ≠ br; omega)).trans a1
                    have c0z := (HBz.out.cell (p := ⟨tb, ot + p * 2, none⟩) z2 (by show tb ≠ br; omega)).trans c0
                    have hl := lim_yes (HLI.out.2 p h5)
                    have hst := st_late hl.2.1 (HST'.out p h5)
                    obtain ⟨late, hlate⟩ : ∃ z, (U' p).2 = z := ⟨_, rfl⟩
                    rw [hlate] at u1 hst
                    obtain ⟨M, hM⟩ : ∃ M, (V p).1 = M := ⟨_, rfl⟩
                    obtain ⟨A, hA⟩ : ∃ A, (V p).2 = A := ⟨_, rfl⟩
                    obtain ⟨R, hR⟩ : ∃ R, ranN V O ra p = R := ⟨_, rfl⟩
                    obtain ⟨S, hS⟩ : ∃ S, la' p = S := ⟨_, rfl⟩
                    obtain ⟨ob, hob⟩ : ∃ z, O p = z := ⟨_, rfl⟩
                    have HRM : Hid (R = if (ob && decide (M % 2 = 1)) = true then ra p + 1 else 0) := by rw [← hR, ← hob, ← hM]; rfl
                    have hMt : M.tmod 2 = M % 2 := by rw [← hM]; exact Int.tmod_eq_emod_of_nonneg hl.1.1
                    have HST2 : Hid (late = decide (A < R) ∧ late = decide (S = 3)) := by rw [← hA, ← hR, ← hS]; exact hst
                    rw [hM] at c0z
                    rw [hA] at c1
                    rw [hS] at lc
                    rw [hob] at a1z
                    obtain ⟨r0, r1⟩ := HKr.out p
                    have ew : IntKind.i64.wrap (ra p + 1) = ra p + 1 := by rw [IntKind.wrap_i64]; omega
                    have HRr : Hid (ranN V O ra p = R) := hR
                    clear a1 c0 hst hlate hl hM hA hR hS hob z1
                    go_upto_region 40 with fail
                    go_cut [213] (fun v wx => v = .bool (ob && decide (M % 2 = 1)) ∧ wx = wz)
                    case first =>
                      clear HLI HST' HKr HUy HRy HOy HBy HLy HST2 HBz HMz HRr HRM
                      cases ob
                      case false =>
                        go_wp2_with fail
                        go_meet
                        exact ⟨rfl, rfl⟩
                      case true =>
                        by_cases hm : M % 2 = 1
                        case pos =>
                          have hm2 : M.tmod 2 = 1 := hMt.trans hm
                          go_wp2_with fail
                          go_meet
                          exact ⟨by simp [hm], rfl⟩
                        case neg =>
                          have hm2 : ¬ M.tmod 2 = 1 := fun h => hm (hMt.symm.trans h)
                          go_wp2_with fail
                          go_meet
                          exact ⟨by simp [hm], rfl⟩
                    obtain ⟨rfl, hw_⟩ := hcut
                    replace hw_ := hw_.symm
                    subst hw_
                    obtain ⟨C, hC⟩ : ∃ C, (ob && decide (M % 2 = 1)) = C := ⟨_, rfl⟩
                    have HRC : Hid (R = if C = true then ra p + 1 else 0) := by rw [← hC]; exact HRM.out
                    rw [hC]
                    clear hC HRM a1z c0z hMt
                    cases C
                    case false =>
                      have e0 : R = 0 := HRC.out
                      subst e0
                      clear HRC
                      go_upto_region 43 with fail
                      obtain ⟨w9, hw9⟩ : ∃ z, wz.setCell ⟨br, p, none⟩ (.int .i64 (0)) = z := ⟨_, rfl⟩
                      try rw [hw9]
                      have HB9 : Hid (Beside br wy w9) := by rw [← hw9]; exact HBz.out.trans (Beside.setCell br wz p (.int .i64 (0)))
                      have HM9 : Hid (OwnI bl w9 (some ⟨br, 0, none⟩) j (ranP V O ra (p + 1))) := by
                        have q_ := HMz.out.putN p (0)
                        rw [hw9, ← HRr.out, ran_on] at q_
                        exact q_
                      obtain ⟨mc9, -, mz9⟩ := own_one HM9.out h5
                      have er : ranP V O ra (p + 1) p = 0 := (if_pos (Nat.lt_succ_self p)).trans HRr.out
                      rw [er] at mc9
                      have c19 := (HB9.out.cell (p := ⟨tb, ot + p * 2 + 1, none⟩) z2 (by show tb ≠ br; omega)).trans c1
                      have u19 := (HB9.out.cell (p := ⟨gn, p * 2 + 1, none⟩) z3 (by show gn ≠ br; omega)).trans u1
                      have lc9 := (HB9.out.cell (p := ⟨bl, p, none⟩) z4 (by show bl ≠ br; omega)).trans lc
                      clear er hw9 HMz HBz mc mf mz c1 u1 lc HRr z2 z3 z4 r0 r1 ew
                      cases late
                      case true =>
                        have g1 : A < 0 := of_decide_eq_true HST2.out.1.symm
                        have g2 : S = 3 := of_decide_eq_true HST2.out.2.symm
                        subst g2
                        as_aux_lemma =>
                          go_quiet (fail)
                          go_wp2
                          go_roundw
                          case rel => exact ⟨p + 1, h5, by go_num, HB9.out.trans (Beside.of (bDrewN (Below.refl _ _) _)), HM9.out.below (bDrewN (Below.refl _ _) _)⟩
                          case measure => exact meas_lt h5
                      case false =>
                        have g1 : ¬ A < 0 := of_decide_eq_false HST2.out.1.symm
                        have g2 : ¬ S = 3 := of_decide_eq_false HST2.out.2.symm
                        as_aux_lemma =>
                          go_quiet (fail)
                          go_wp2
                          go_roundw
                          case rel => exact ⟨p + 1, h5, by go_num, HB9.out.trans (Beside.of (bDrewN (Below.refl _ _) _)), HM9.out.below (bDrewN (Below.refl _ _) _)⟩
                          case measure => exact meas_lt h5
                    case true =>
                      have e0 : R = ra p + 1 := HRC.out
                      subst e0
                      clear HRC
                      go_upto_region 43 with fail
                      obtain ⟨w9, hw9⟩ : ∃ z, wz.setCell ⟨br, p, none⟩ (.int .i64 (ra p + 1)) = z := ⟨_, rfl⟩
                      try rw [hw9]
                      have HB9 : Hid (Beside br wy w9) := by rw [← hw9]; exact HBz.out.trans (Beside.setCell br wz p (.int .i64 (ra p + 1)))
                      have HM9 : Hid (OwnI bl w9 (some ⟨br, 0, none⟩) j (ranP V O ra (p + 1))) := by
                        have q_ := HMz.out.putN p (ra p + 1)
                        rw [hw9, ← HRr.out, ran_on] at q_
                        exact q_
                      obtain ⟨mc9, -, mz9⟩ := own_one HM9.out h5
                      have er : ranP V O ra (p + 1) p = ra p + 1 := (if_pos (Nat.lt_succ_self p)).trans HRr.out
                      rw [er] at mc9
                      have c19 := (HB9.out.cell (p := ⟨tb, ot + p * 2 + 1, none⟩) z2 (by show tb ≠ br; omega)).trans c1
                      have u19 := (HB9.out.cell (p := ⟨gn, p * 2 + 1, none⟩) z3 (by show gn ≠ br; omega)).trans u1
                      have lc9 := (HB9.out.cell (p := ⟨bl, p, none⟩) z4 (by show bl ≠ br; omega)).trans lc
                      clear er hw9 HMz HBz mc mf mz c1 u1 lc HRr z2 z3 z4 r0 r1 ew
                      cases late
                      case true =>
                        have g1 : A < ra p + 1 := of_decide_eq_true HST2.out.1.symm
                        have g2 : S = 3 := of_decide_eq_true HST2.out.2.symm
                        subst g2
                        as_aux_lemma =>
                          go_quiet (fail)
                          go_wp2
                          go_roundw
                          case rel => exact ⟨p + 1, h5, by go_num, HB9.out.trans (Beside.of (bDrewN (Below.refl _ _) _)), HM9.out.below (bDrewN (Below.refl _ _) _)⟩
                          case measure => exact meas_lt h5
                      case false =>
                        have g1 : ¬ A < ra p + 1 := of_decide_eq_false HST2.out.1.symm
                        have g2 : ¬ S = 3 := of_decide_eq_false HST2.out.2.symm
                        as_aux_lemma =>
                          go_quiet (fail)
                          go_wp2
                          go_roundw
                          case rel => exact ⟨p + 1, h5, by go_num, HB9.out.trans (Beside.of (bDrewN (Below.refl _ _) _)), HM9.out.below (bDrewN (Below.refl _ _) _)⟩
                          case measure => exact meas_lt h5
                  case neg =>
                    obtain rfl : p = j := by omega
                    have l5 : ¬ (p : Int) < (p : Int) := by omega
                    have HRz : Hid (RowLimit wz (some ⟨tb, ot, none⟩) p V) := HRy.out.bes HBz.out (fun g o e => by cases e; omega)
                    have HUz : Hid (RowClock wz (some ⟨gn, 0, none⟩) p U') := HUy.out.bes HBz.out (fun g o e => by cases e; omega)
                    have HLz : Hid (OwnI bl wz (some ⟨bl, 0, none⟩) p la') := HLy.out.besN HBz.out (fun g o e => by cases e; omega)
                    have HMw : Hid (OwnI bl wz (some ⟨br, 0, none⟩) p (ranN V O ra)) := own_ranN HMz.out
                    have HBw : Hid (Below w.heap.size w wz) := HBy.out.trans (HBz.out.below (Nat.le_trans zbl (Nat.le_of_lt zlr)) HBy.out.size)
                    have zz : br < wz.heap.size := Nat.lt_of_lt_of_le zy HBz.out.2.2.2.1
                    clear HMz HBz HRy HUy HLy HBy HOy zy
                    go_wp2_with fail
                    go_roundw
                    case rel =>
                      repeat apply Exists.intro
                      refine ⟨?_, rfl⟩
                      exact ⟨i + 1, gn, 0, cn, U', la', ranN V O ra, rfl, by go_num, by omega, by omega, by omega, by omega, HRz, HUz, HLz, HMw, HBw, ck_on HLI.out HST'.out, (fun _ => HST'.out), (fun q => ran_bd (HKr.out q)), zz⟩
                    case measure => exact meas_lt (n := 60) h2
end Go.Proofs.YtmoeoepinlcmdaaDoor
