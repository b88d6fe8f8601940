/-
What is proved: FnBoards: along drawn scans a board stays right, what is told was neither new nor seen ahead of it and is new behind it, and no group has its first one while all of it are quiet; no condition.
-/
import Derived.Test.YtlbbdifmjdpfiaaBrDz
import Derived.Test.YtlbbdifmjdpfiaaBfUz
import Derived.Test.YtlbbdifmjdpfiaaBqIz
import Derived.Test.YtlbbdifmjdpfiaaBqSz
import Derived.Test.YtlbbdifmjdpfiaaBsIz
import Derived.Test.YtlbbdifmjdpfiaaBdz
import Derived.Test.YtlbbdifmjdpfiaaFstz
import Derived.Test.YtlbbdifmjdpfiaaSaIz
import Derived.Test.YtlbbdifmjdpfiaaOpen8z
import Derived.Deep.DeepCutAuto
import Derived.Deep.RegionHeldLaw
import Derived.BigQuiet
namespace Go.Proofs.Ytlbbdifmjdpfiaa
set_option maxRecDepth 40000
open Go.ChangeShapes Go.WideShapes Go.ChangeAt Go.RowKit
set_option linter.unusedVariables false
set_option linter.unusedSimpArgs false

set_option maxHeartbeats 400000 in
theorem boards_far (w : World) (s : Option Addr) (n c : Nat) (h : (1048576 : Int) < n) :
    Calls Try.prog 3 #[.slice s n c] w fun e w' => e = .returned (.bool true) ∧ Below w.heap.size w w' := by
  go_enter Try.func3, Try.ntmps3
  go_wp2_with fail
  refine (big_yes _ _ _ _ h).mono ?_
  rintro e w1 ⟨rfl, rfl⟩
  go_wp2
  go_ret
  exact ⟨rfl, Below.refl _ _⟩
set_option maxRecDepth 20000 in
set_option maxHeartbeats 16000000 in
theorem boards_near (w : World) (s : Option Addr) (n c : Nat) (h0 : (n : Int) ≤ 1048576) (HC : Hid (Code8 w s n)) :
    Calls Try.prog 3 #[.slice s n c] w fun e w' => e = .returned (.bool true) ∧ Below w.heap.size w w' := by
  go_enter Try.func3, Try.ntmps3
  go_wp2_with fail
  refine (big_no _ _ _ _ h0).mono ?_
  rintro e w1 ⟨rfl, rfl⟩
  rename World => w
  go_wp2_with fail
  refine (drawBoardRun_any HC).mono ?_
  rintro e w2 hK
  unfold DbPost at hK
  obtain ⟨x, t, na, ac, V, sl, m, mc, Z, rfl, hna, hm, hZ, rA, rZ, b1⟩ := hK
  have HA : Hid (RowAlarm w2 t na V) := rA
  have HZ : Hid (RowScs w2 sl m Z) := rZ
  have HZb : Hid (∀ i, i < m → ((Z i).2.1 : Int) ≤ 1048576 ∧ ((Z i).2.2.2.1 : Int) ≤ 1048576 ∧ ((Z i).2.2.2.2.2.1 : Int) ≤ 1048576) := hZ
  have HS : Hid (Below w.heap.size w w2) := b1
  obtain ⟨ok, hok⟩ : ∃ ok, bqB x na V m Z = ok := ⟨_, rfl⟩
  have HOK : Hid (bqB x na V m Z = ok) := hok
  clear hZ rA rZ b1 hok HC h0
  go_upto_region 4 with fail
  obtain ⟨w3, hx_⟩ : ∃ z, z = w2.alloc (.cells #[.int .i64 x, .slice t na ac] 26) := ⟨_, rfl⟩
  try rw [← hx_]
  obtain ⟨g3, hg_⟩ : ∃ z, z = w2.heap.size := ⟨_, rfl⟩
  have b_ : Below w2.heap.size w2 w3 := by rw [hx_]; exact below0 _ _
  have H3 : Hid (Blk w3 g3 [.int .i64 x, .slice t na ac]) := by show Blk _ _ _; rw [hx_, hg_]; exact Blk.new w2 #[.int .i64 x, .slice t na ac] _
  replace HA : Hid (RowAlarm w3 t na V) := HA.out.below b_
  replace HZ : Hid (RowScs w3 sl m Z) := HZ.out.below b_
  replace HS : Hid (Below w.heap.size w w3) := HS.out.trans (b_.mono HS.out.size)
  try rw [← hg_]
  clear hx_ hg_ b_
  have c0 := H3.out.2.2 0 _ rfl
  have c1 := H3.out.2.2 1 _ rfl
  have cz := H3.out.1
  go_wp2_with fail
  refine (specBoardRun_any x t na ac V sl m mc Z _ (by omega) (by omega) HZb.out HA HZ).mono ?_
  rintro e w4 hB
  obtain ⟨u0, ku0, cu0, xu0, tu0, nu0, du0, rfl, hu0, b4⟩ := bq_use hB HOK.out
  clear c0 c1 cz
  clear hB
  replace H3 : Hid (Blk w4 g3 [.int .i64 x, .slice t na ac]) := H3.out.below b4
  replace HA : Hid (RowAlarm w4 t na V) := HA.out.below b4
  replace HZ : Hid (RowScs w4 sl m Z) := HZ.out.below b4
  replace HS : Hid (Below w.heap.size w w4) := HS.out.trans (b4.mono HS.out.size)
  clear b4
  clear hu0
  go_upto_region 5 with fail
  obtain ⟨w5, hx_⟩ : ∃ z, z = w4.alloc (.cells #[.int .i64 xu0, .slice tu0 nu0 du0] 26) := ⟨_, rfl⟩
  try rw [← hx_]
  obtain ⟨g6, hg_⟩ : ∃ z, z = w4.heap.size := ⟨_, rfl⟩
  have b_ : Below w4.heap.size w4 w5 := by rw [hx_]; exact below0 _ _
  have H6 : Hid (Blk w5 g6 [.int .i64 xu0, .slice tu0 nu0 du0]) := by show Blk _ _ _; rw [hx_, hg_]; exact Blk.new w4 #[.int .i64 xu0, .slice tu0 nu0 du0] _
  replace H3 : Hid (Blk w5 g3 [.int .i64 x, .slice t na ac]) := H3.out.below b_
  replace HA : Hid (RowAlarm w5 t na V) := HA.out.below b_
  replace HZ : Hid (RowScs w5 sl m Z) := HZ.out.below b_
  replace HS : Hid (Below w.heap.size w w5) := HS.out.trans (b_.mono HS.out.size)
  try rw [← hg_]
  clear hx_ hg_ b_
  clear H6
  have c0 := H3.out.2.2 0 _ rfl
  have c1 := H3.out.2.2 1 _ rfl
  have cz := H3.out.1
  go_wp2_with fail
  refine (implBoardRun_any x t na ac V sl m mc Z _ (by omega) (by omega) HZb.out HA HZ).mono ?_
  rintro e w6 hB
  obtain ⟨u1, ku1, cu1, xu1, tu1, nu1, du1, rfl, hu1, b4⟩ := bq_use hB HOK.out
  clear c0 c1 cz
  clear hB
  replace H3 : Hid (Blk w6 g3 [.int .i64 x, .slice t na ac]) := H3.out.below b4
  replace HA : Hid (RowAlarm w6 t na V) := HA.out.below b4
  replace HZ : Hid (RowScs w6 sl m Z) := HZ.out.below b4
  replace HS : Hid (Below w.heap.size w w6) := HS.out.trans (b4.mono HS.out.size)
  clear b4
  have HU1 : Hid (ok = true → ku1 = m ∧ xu1 = x + (m : Int) ∧ nu1 = na ∧ RowLL w6 u1 m (bqK x na V Z) (bqU x na V Z) ∧ RowAlarm w6 tu1 na (bqV x na V Z m)) := hu1
  clear hu1
  go_upto_region 6 with fail
  obtain ⟨w7, hx_⟩ : ∃ z, z = w6.alloc (.cells #[.int .i64 xu1, .slice tu1 nu1 du1] 26) := ⟨_, rfl⟩
  try rw [← hx_]
  obtain ⟨g9, hg_⟩ : ∃ z, z = w6.heap.size := ⟨_, rfl⟩
  have b_ : Below w6.heap.size w6 w7 := by rw [hx_]; exact below0 _ _
  have H9 : Hid (Blk w7 g9 [.int .i64 xu1, .slice tu1 nu1 du1]) := by show Blk _ _ _; rw [hx_, hg_]; exact Blk.new w6 #[.int .i64 xu1, .slice tu1 nu1 du1] _
  replace H3 : Hid (Blk w7 g3 [.int .i64 x, .slice t na ac]) := H3.out.below b_
  replace HA : Hid (RowAlarm w7 t na V) := HA.out.below b_
  replace HZ : Hid (RowScs w7 sl m Z) := HZ.out.below b_
  replace HS : Hid (Below w.heap.size w w7) := HS.out.trans (b_.mono HS.out.size)
  try rw [← hg_]
  have Hb7 : Hid (Below w6.heap.size w6 w7) := b_
  clear hx_ hg_ b_
  have hoo : (ok != ok) = false := by simp
  cases ok
  case false =>
    have BS := HS.out
    have sBS := BS.size
    go_wp2
    go_ret
    exact ⟨rfl, (by repeat (first | with_reducible exact Below.refl _ _ | with_reducible exact BS | with_reducible refine Below.setCell ?_ (by first | omega | (simp; done) | (simp; omega)) _ | with_reducible refine bDrewN ?_ _ | with_reducible refine Below.drew ?_ | with_reducible refine Below.alloc ?_ (by first | omega | (simp; done) | (simp; omega)) _))⟩
  case true =>
    obtain ⟨e1, e2, e3, r1, r2⟩ := HU1.out rfl
    subst e2
    have e1' := e1.symm
    subst e1'
    have e3' := e3.symm
    subst e3'
    have HLL : Hid (RowLL w7 u1 m (bqK x na V Z) (bqU x na V Z)) := r1.below Hb7.out
    have HE : Hid (RowAlarm w7 tu1 na (bqV x na V Z m)) := r2.below Hb7.out
    obtain ⟨ro, rb⟩ := run_at HOK.out
    have HO : Hid (∀ k, k < m → bqO x na V Z k = true) := ro
    have HBd : Hid (∀ k, k ≤ m → boardB (x + (k : Int)) na (bqV x na V Z k) = true) := rb
    clear HU1 Hb7 r1 r2 ro rb hoo
    have c0 := H3.out.2.2 0 _ rfl
    have c1 := H3.out.2.2 1 _ rfl
    have cz := H3.out.1
    go_upto_region 11 with fail
    obtain ⟨w8, hx_⟩ : ∃ z, z = w7.alloc (.cells #[.int .i64 x, .slice t na ac] 26) := ⟨_, rfl⟩
    try rw [← hx_]
    obtain ⟨g11, hg_⟩ : ∃ z, z = w7.heap.size := ⟨_, rfl⟩
    have HW8_ : Hid (Below w7.heap.size w7 w8) := by show Below _ _ _; rw [hx_]; exact below0 _ _
    have z711 : w7.heap.size ≤ g11 := by omega
    have HSN : Hid (0 < na → ∀ g o, t = some ⟨g, o, none⟩ → g ≠ g11) := fun h_ g o e => by have := HA.out.ltP h_ g o e; omega
    have b_ : Below w7.heap.size w7 w8 := by rw [hx_]; exact below0 _ _
    have H11 : Hid (Blk w8 g11 [.int .i64 x, .slice t na ac]) := by show Blk _ _ _; rw [hx_, hg_]; exact Blk.new w7 #[.int .i64 x, .slice t na ac] _
    try rw [← hg_]
    clear hx_ hg_ b_
    clear c0 c1 cz
    have H11x : Hid (Blk w8 g11 [.int .i64 (x + ((0 : Nat) : Int)), .slice t na ac]) := by show Blk _ _ _; rw [show x + ((0 : Nat) : Int) = x by simp]; exact H11.out
    have HA0 : Hid (RowAlarm w8 t na (bqV x na V Z 0)) := HA.out.below HW8_.out
    clear H11
    go_wp2_with fail
    go_loopw [12] (fun v12 wx => ∃ (i : Nat) (sa : Option Addr) (ca : Nat), v12 = .int .i64 (i : Int) ∧ i ≤ m ∧ Hid (Blk wx g11 [.int .i64 (x + (i : Int)), .slice sa na ca]) ∧ Hid (RowAlarm wx sa na (bqV x na V Z i)) ∧ Hid (0 < na → ∀ g o, sa = some ⟨g, o, none⟩ → g ≠ g11) ∧ Hid (Below w7.heap.size w7 wx)) (fun v12 _ => m - (intOf v12).toNat)
    case atStart => exact ⟨0, t, ac, rfl, Nat.zero_le _, H11x, HA0, HSN, HW8_⟩
    case round =>
      clear H11x HA0 HSN HW8_
      obtain ⟨i, sa, ca, rfl, hi0, H11, HAi, HSN, HW⟩ := hrel
      rename World => wr
      by_cases hi : i < m
      case pos =>
        have hii : (i : Int) < (m : Int) := by omega
        obtain ⟨zb, zo, p1, d1, p2, d2, p3, d3, rfl, zz, z0, z1, z2, z3, zr⟩ := (HZ.out.below HW.out) i hi
        have HZc : Hid (zb < wr.heap.size ∧ wr.cell? ⟨zb, zo + i * 4, none⟩ = some (.int .i64 ((Z i).1)) ∧ wr.cell? ⟨zb, zo + i * 4 + 1, none⟩ = some (.slice p1 ((Z i).2.1) d1) ∧ wr.cell? ⟨zb, zo + i * 4 + 2, none⟩ = some (.slice p2 ((Z i).2.2.2.1) d2) ∧ wr.cell? ⟨zb, zo + i * 4 + 3, none⟩ = some (.slice p3 ((Z i).2.2.2.2.2.1) d3)) := ⟨zz, z0, z1, z2, z3⟩
        have HT1 : Hid (RowB wr p1 ((Z i).2.1) ((Z i).2.2.1)) := zr.1
        have HT2 : Hid (RowI wr p2 ((Z i).2.2.2.1) ((Z i).2.2.2.2.1)) := zr.2.1
        have HT3 : Hid (RowShelf wr p3 ((Z i).2.2.2.2.2.1) ((Z i).2.2.2.2.2.2)) := zr.2.2
        clear zz z0 z1 z2 z3 zr
        go_upto_region 14 with fail
        go_cut [13, 14, 15] (fun v13 v14 v15 wx => ∃ (g13 : Nat) (s0 : Option Addr) (c0 : Nat) (s7 : Option Addr) (tl c7 : Nat), v13 = .pointer (some ⟨g13, 0, none⟩) ∧ v14 = .slice s7 tl c7 ∧ v15 = .bool true ∧ tl ≤ na ∧ g11 < g13 ∧ Hid ((bqL x na V Z i).length = tl) ∧ Hid (Blk wx g13 [.int .i64 (x + (i : Int) + 1), .slice s0 na c0]) ∧ Hid (∃ Bn, g11 < Bn ∧ OwnAlarm Bn wx s0 na (bqV x na V Z (i + 1))) ∧ Hid (RowI wx s7 tl (nthI (bqL x na V Z i))) ∧ Hid (Blk wx g11 [.int .i64 (x + (i : Int)), .slice sa na ca]) ∧ Hid (RowAlarm wx sa na (bqV x na V Z i)) ∧ Hid (0 < na → ∀ g o, sa = some ⟨g, o, none⟩ → g ≠ g11) ∧ Hid (Below w7.heap.size w7 wx))
        case first =>
          refine wp_region_held_drew (S := fun w' => w'.cell? ⟨g11, 0, none⟩ = some (.int .i64 (x + (i : Int))) ∧ w'.cell? ⟨g11, 1, none⟩ = some (.slice sa na ca) ∧ w'.cell? ⟨zb, zo + i * 4, none⟩ = some (.int .i64 ((Z i).1)) ∧ w'.cell? ⟨zb, zo + i * 4 + 1, none⟩ = some (.slice p1 ((Z i).2.1) d1) ∧ w'.cell? ⟨zb, zo + i * 4 + 2, none⟩ = some (.slice p2 ((Z i).2.2.2.1) d2) ∧ w'.cell? ⟨zb, zo + i * 4 + 3, none⟩ = some (.slice p3 ((Z i).2.2.2.2.2.1) d3) ∧ g11 < w'.heap.size ∧ zb < w'.heap.size) (by kernel_rfl) ?_ (fun hHeld => ?_)
          · exact ⟨H11.out.2.2 0 _ rfl, H11.out.2.2 1 _ rfl, HZc.out.2.1, HZc.out.2.2.1, HZc.out.2.2.2.1, HZc.out.2.2.2.2, H11.out.1, HZc.out.1⟩
          obtain ⟨v0, hv0⟩ : ∃ z, z = wr.drew := ⟨_, rfl⟩
          try rw [← hv0] at hHeld
          rw [← hv0]
          have bv0 : Below wr.heap.size wr v0 := by rw [hv0]; exact Below.drew (Below.refl _ _)
          clear hv0
          replace H11 : Hid (Blk v0 g11 [.int .i64 (x + (i : Int)), .slice sa na ca]) := H11.out.below bv0
          replace HAi : Hid (RowAlarm v0 sa na (bqV x na V Z i)) := HAi.out.below bv0
          replace HW : Hid (Below w7.heap.size w7 v0) := HW.out.trans (bv0.mono HW.out.size)
          replace HZc : Hid (zb < v0.heap.size ∧ v0.cell? ⟨zb, zo + i * 4, none⟩ = some (.int .i64 ((Z i).1)) ∧ v0.cell? ⟨zb, zo + i * 4 + 1, none⟩ = some (.slice p1 ((Z i).2.1) d1) ∧ v0.cell? ⟨zb, zo + i * 4 + 2, none⟩ = some (.slice p2 ((Z i).2.2.2.1) d2) ∧ v0.cell? ⟨zb, zo + i * 4 + 3, none⟩ = some (.slice p3 ((Z i).2.2.2.2.2.1) d3)) := ⟨Nat.lt_of_lt_of_le HZc.out.1 bv0.size, (bv0.cell (p := ⟨zb, zo + i * 4, none⟩) HZc.out.1).trans HZc.out.2.1, (bv0.cell (p := ⟨zb, zo + i * 4 + 1, none⟩) HZc.out.1).trans HZc.out.2.2.1, (bv0.cell (p := ⟨zb, zo + i * 4 + 2, none⟩) HZc.out.1).trans HZc.out.2.2.2.1, (bv0.cell (p := ⟨zb, zo + i * 4 + 3, none⟩) HZc.out.1).trans HZc.out.2.2.2.2⟩
          replace HT1 : Hid (RowB v0 p1 ((Z i).2.1) ((Z i).2.2.1)) := HT1.out.below bv0
          replace HT2 : Hid (RowI v0 p2 ((Z i).2.2.2.1) ((Z i).2.2.2.2.1)) := HT2.out.below bv0
          replace HT3 : Hid (RowShelf v0 p3 ((Z i).2.2.2.2.2.1) ((Z i).2.2.2.2.2.2)) := HT3.out.below bv0
          clear bv0
          refine wpAnyH_take (i := 0) (v := .agg #[.int .i64 (x + (i : Int)), .slice sa na ca]) rfl (by kernel_rfl) (by kernel_rfl) (by kernel_rfl) (fun _ _ _ h => h) (Or.inl ⟨by kernel_rfl, ?_⟩) hHeld ?_
          · intro w' hSw
            obtain ⟨hc0, hc1, hc2, hc3, hc4, hc5, hz0, hz1⟩ := hSw
            first | (go_simp; done) | (go_simp; with_reducible rfl) | (go_simp; rw [IntKind.wrap_i64]; omega) | (go_simp; omega)
          simp only [Act.put, List.setIfInBounds_toArray, List.set_cons_zero, List.set_cons_succ]
          refine wpAnyH_take (i := 1) (v := .slice (some ⟨zb, zo, none⟩) m mc) rfl (by kernel_rfl) (by kernel_rfl) (by kernel_rfl) (fun _ _ _ h => h) (Or.inl ⟨by kernel_rfl, ?_⟩) hHeld ?_
          · intro w' hSw
            obtain ⟨hc0, hc1, hc2, hc3, hc4, hc5, hz0, hz1⟩ := hSw
            first | (go_simp; done) | (go_simp; with_reducible rfl) | (go_simp; rw [IntKind.wrap_i64]; omega) | (go_simp; omega)
          simp only [Act.put, List.setIfInBounds_toArray, List.set_cons_zero, List.set_cons_succ]
          refine wpAnyH_take (i := 2) (v := .int .i64 (i : Int)) rfl (by kernel_rfl) (by kernel_rfl) (by kernel_rfl) (fun _ _ _ h => h) (Or.inl ⟨by kernel_rfl, ?_⟩) hHeld ?_
          · intro w' hSw
            obtain ⟨hc0, hc1, hc2, hc3, hc4, hc5, hz0, hz1⟩ := hSw
            first | (go_simp; done) | (go_simp; with_reducible rfl) | (go_simp; rw [IntKind.wrap_i64]; omega) | (go_simp; omega)
          simp only [Act.put, List.setIfInBounds_toArray, List.set_cons_zero, List.set_cons_succ]
          refine wpAnyH_take (i := 3) (v := .pointer (some ⟨zb, zo + i * 4, none⟩)) rfl (by kernel_rfl) (by kernel_rfl) (by kernel_rfl) (fun _ _ _ h => h) (Or.inl ⟨by kernel_rfl, ?_⟩) hHeld ?_
          · intro w' hSw
            obtain ⟨hc0, hc1, hc2, hc3, hc4, hc5, hz0, hz1⟩ := hSw
            first | (go_simp; done) | (go_simp; with_reducible rfl) | (go_simp; rw [IntKind.wrap_i64]; omega) | (go_simp; omega)
          simp only [Act.put, List.setIfInBounds_toArray, List.set_cons_zero, List.set_cons_succ]
          refine wpAnyH_take (i := 4) (v := .agg #[.int .i64 ((Z i).1), .slice p1 ((Z i).2.1) d1, .slice p2 ((Z i).2.2.2.1) d2, .slice p3 ((Z i).2.2.2.2.2.1) d3]) rfl (by kernel_rfl) (by kernel_rfl) (by kernel_rfl) (fun _ _ _ h => h) (Or.inl ⟨by kernel_rfl, ?_⟩) hHeld ?_
          · intro w' hSw
            obtain ⟨hc0, hc1, hc2, hc3, hc4, hc5, hz0, hz1⟩ := hSw
            first | (go_simp; done) | (go_simp; with_reducible rfl) | (go_simp; rw [IntKind.wrap_i64]; omega) | (go_simp; omega)
          simp only [Act.put, List.setIfInBounds_toArray, List.set_cons_zero, List.set_cons_succ]
          refine wpAnyH_ready (rs := [5, 10]) (by kernel_rfl) (by simp) ?_
          refine (AllReadyH.cons rfl (fun KK hK => ?_) (AllReadyH.cons rfl (fun KK hK => ?_) AllReadyH.nil))
          · have HzG : Hid (g11 < v0.heap.size) := H11.out.1
            go_simp
            go_wp2_with (first | (go_at_call 13; refine (implBoardStep_any (x + (i : Int)) sa na ca (bqV x na V Z i) ((Z i).1) p1 ((Z i).2.1) d1 ((Z i).2.2.1) p2 ((Z i).2.2.2.1) d2 ((Z i).2.2.2.2.1) p3 ((Z i).2.2.2.2.2.1) d3 ((Z i).2.2.2.2.2.2) _ (by omega) (HZb.out i hi).1 (HZb.out i hi).2.1 (HZb.out i hi).2.2 HAi HT1 HT2 HT3).mono ?_; rintro e v0_1 hB; obtain ⟨s0, c0, s7, c7, rfl, hn9, ht9, b9⟩ := bs_step (HO.out i hi) hB))
            obtain ⟨tl, htl⟩ : ∃ tl, (bqL x na V Z i).length = tl := ⟨_, rfl⟩
            have hle := told_len x na V Z i
            rw [htl] at ht9 hle
            rw [htl]
            have HTl : Hid ((bqL x na V Z i).length = tl) := htl
            have HNX : Hid (∃ Bn, g11 < Bn ∧ OwnAlarm Bn v0_1 s0 na (bqV x na V Z (i + 1))) := ⟨_, HzG.out, hn9⟩
            have HTL : Hid (RowI v0_1 s7 tl (nthI (bqL x na V Z i))) := ht9.row
            replace H11 : Hid (Blk v0_1 g11 [.int .i64 (x + (i : Int)), .slice sa na ca]) := H11.out.below b9
            replace HAi : Hid (RowAlarm v0_1 sa na (bqV x na V Z i)) := HAi.out.below b9
            replace HW : Hid (Below w7.heap.size w7 v0_1) := HW.out.trans (b9.mono HW.out.size)
            replace HZc : Hid (zb < v0_1.heap.size ∧ v0_1.cell? ⟨zb, zo + i * 4, none⟩ = some (.int .i64 ((Z i).1)) ∧ v0_1.cell? ⟨zb, zo + i * 4 + 1, none⟩ = some (.slice p1 ((Z i).2.1) d1) ∧ v0_1.cell? ⟨zb, zo + i * 4 + 2, none⟩ = some (.slice p2 ((Z i).2.2.2.1) d2) ∧ v0_1.cell? ⟨zb, zo + i * 4 + 3, none⟩ = some (.slice p3 ((Z i).2.2.2.2.2.1) d3)) := ⟨Nat.lt_of_lt_of_le HZc.out.1 b9.size, (b9.cell (p := ⟨zb, zo + i * 4, none⟩) HZc.out.1).trans HZc.out.2.1, (b9.cell (p := ⟨zb, zo + i * 4 + 1, none⟩) HZc.out.1).trans HZc.out.2.2.1, (b9.cell (p := ⟨zb, zo + i * 4 + 2, none⟩) HZc.out.1).trans HZc.out.2.2.2.1, (b9.cell (p := ⟨zb, zo + i * 4 + 3, none⟩) HZc.out.1).trans HZc.out.2.2.2.2⟩
            have HT1_ : Hid (RowB v0_1 p1 ((Z i).2.1) ((Z i).2.2.1)) := HT1.out.below b9
            have HT2_ : Hid (RowI v0_1 p2 ((Z i).2.2.2.1) ((Z i).2.2.2.2.1)) := HT2.out.below b9
            have HT3_ : Hid (RowShelf v0_1 p3 ((Z i).2.2.2.2.2.1) ((Z i).2.2.2.2.2.2)) := HT3.out.below b9
            clear b9 hB htl hn9 ht9 HzG HT1 HT2 HT3 HT1_ HT2_ HT3_
            refine hK.out _ _ (⟨H11.out.2.2 0 _ rfl, H11.out.2.2 1 _ rfl, HZc.out.2.1, HZc.out.2.2.1, HZc.out.2.2.2.1, HZc.out.2.2.2.2, H11.out.1, HZc.out.1⟩) (fun hHeld => ?_)
            clear hK KK
            refine wpAnyH_take (i := 6) (v := .tuple #[.agg #[.int .i64 (x + (i : Int) + 1), .slice s0 na c0], .slice s7 tl c7, .bool true]) rfl (by kernel_rfl) (by kernel_rfl) (by kernel_rfl) (fun _ _ _ h => h) (Or.inl ⟨by kernel_rfl, ?_⟩) hHeld ?_
            · intro w' hSw
              obtain ⟨hc0, hc1, hc2, hc3, hc4, hc5, hz0, hz1⟩ := hSw
              first | (go_simp; done) | (go_simp; with_reducible rfl) | (go_simp; rw [IntKind.wrap_i64]; omega) | (go_simp; omega)
            simp only [Act.put, List.setIfInBounds_toArray, List.set_cons_zero, List.set_cons_succ]
            refine wpAnyH_take (i := 7) (v := .agg #[.int .i64 (x + (i : Int) + 1), .slice s0 na c0]) rfl (by kernel_rfl) (by kernel_rfl) (by kernel_rfl) (fun _ _ _ h => h) (Or.inl ⟨by kernel_rfl, ?_⟩) hHeld ?_
            · intro w' hSw
              obtain ⟨hc0, hc1, hc2, hc3, hc4, hc5, hz0, hz1⟩ := hSw
              first | (go_simp; done) | (go_simp; with_reducible rfl) | (go_simp; rw [IntKind.wrap_i64]; omega) | (go_simp; omega)
            simp only [Act.put, List.setIfInBounds_toArray, List.set_cons_zero, List.set_cons_succ]
            refine wpAnyH_take (i := 8) (v := .slice s7 tl c7) rfl (by kernel_rfl) (by kernel_rfl) (by kernel_rfl) (fun _ _ _ h => h) (Or.inl ⟨by kernel_rfl, ?_⟩) hHeld ?_
            · intro w' hSw
              obtain ⟨hc0, hc1, hc2, hc3, hc4, hc5, hz0, hz1⟩ := hSw
              first | (go_simp; done) | (go_simp; with_reducible rfl) | (go_simp; rw [IntKind.wrap_i64]; omega) | (go_simp; omega)
            simp only [Act.put, List.setIfInBounds_toArray, List.set_cons_zero, List.set_cons_succ]
            refine wpAnyH_take (i := 9) (v := .bool true) rfl (by kernel_rfl) (by kernel_rfl) (by kernel_rfl) (fun _ _ _ h => h) (Or.inl ⟨by kernel_rfl, ?_⟩) hHeld ?_
            · intro w' hSw
              obtain ⟨hc0, hc1, hc2, hc3, hc4, hc5, hz0, hz1⟩ := hSw
              first | (go_simp; done) | (go_simp; with_reducible rfl) | (go_simp; rw [IntKind.wrap_i64]; omega) | (go_simp; omega)
            simp only [Act.put, List.setIfInBounds_toArray, List.set_cons_zero, List.set_cons_succ]
            refine wpAnyH_ready (rs := [10]) (by kernel_rfl) (by simp) ?_
            refine (AllReadyH.cons rfl (fun KK hK => ?_) AllReadyH.nil)
            go_simp
            obtain ⟨v0_2, hv_⟩ : ∃ z, z = v0_1.alloc (.cells #[.int .i64 0, .slice none 0 0] 26) := ⟨_, rfl⟩
            rw [← hv_]
            obtain ⟨g13, hg13⟩ : ∃ z, z = v0_1.heap.size := ⟨_, rfl⟩
            have b_ : Below v0_1.heap.size v0_1 v0_2 := by rw [hv_]; exact below0 _ _
            have H13 : Hid (Blk v0_2 g13 [.int .i64 0, .slice none 0 0]) := by show Blk _ _ _; rw [hv_, hg13]; exact Blk.new v0_1 #[.int .i64 0, .slice none 0 0] _
            have z13 : g11 < g13 := by have := H11.out.1; omega
            have z70 : w7.heap.size ≤ g13 := by have := HW.out.size; omega
            have HNS : Hid (0 < na → ∀ g o, sa = some ⟨g, o, none⟩ → g ≠ g13) := fun h_ g o e => by have := HAi.out.ltP h_ g o e; omega
            have HNZ : Hid (zb ≠ g13) := by have := HZc.out.1; show zb ≠ g13; omega
            have HNA : Hid (0 < na → ∀ g, s0 = some ⟨g, 0, none⟩ → g ≠ g13) := fun h_ g e => by obtain ⟨Bn, -, q_⟩ := HNX.out; have := (q_.geP h_ g 0 e).2; omega
            have HNT : Hid (0 < tl → ∀ g o, s7 = some ⟨g, o, none⟩ → g ≠ g13) := fun h_ g o e => by have := HTL.out.ltP h_ g o e; omega
            replace H11 : Hid (Blk v0_2 g11 [.int .i64 (x + (i : Int)), .slice sa na ca]) := H11.out.below b_
            replace HAi : Hid (RowAlarm v0_2 sa na (bqV x na V Z i)) := HAi.out.below b_
            replace HW : Hid (Below w7.heap.size w7 v0_2) := HW.out.trans (b_.mono HW.out.size)
            replace HZc : Hid (zb < v0_2.heap.size ∧ v0_2.cell? ⟨zb, zo + i * 4, none⟩ = some (.int .i64 ((Z i).1)) ∧ v0_2.cell? ⟨zb, zo + i * 4 + 1, none⟩ = some (.slice p1 ((Z i).2.1) d1) ∧ v0_2.cell? ⟨zb, zo + i * 4 + 2, none⟩ = some (.slice p2 ((Z i).2.2.2.1) d2) ∧ v0_2.cell? ⟨zb, zo + i * 4 + 3, none⟩ = some (.slice p3 ((Z i).2.2.2.2.2.1) d3)) := ⟨Nat.lt_of_lt_of_le HZc.out.1 b_.size, (b_.cell (p := ⟨zb, zo + i * 4, none⟩) HZc.out.1).trans HZc.out.2.1, (b_.cell (p := ⟨zb, zo + i * 4 + 1, none⟩) HZc.out.1).trans HZc.out.2.2.1, (b_.cell (p := ⟨zb, zo + i * 4 + 2, none⟩) HZc.out.1).trans HZc.out.2.2.2.1, (b_.cell (p := ⟨zb, zo + i * 4 + 3, none⟩) HZc.out.1).trans HZc.out.2.2.2.2⟩
            replace HNX : Hid (∃ Bn, g11 < Bn ∧ OwnAlarm Bn v0_2 s0 na (bqV x na V Z (i + 1))) := by obtain ⟨Bn, h1_, h2_⟩ := HNX.out; exact ⟨Bn, h1_, h2_.belowA b_⟩
            replace HTL : Hid (RowI v0_2 s7 tl (nthI (bqL x na V Z i))) := HTL.out.below b_
            try rw [← hg13]
            clear hv_ hg13 b_
            refine hK.out _ _ (⟨H11.out.2.2 0 _ rfl, H11.out.2.2 1 _ rfl, HZc.out.2.1, HZc.out.2.2.1, HZc.out.2.2.2.1, HZc.out.2.2.2.2, H11.out.1, HZc.out.1⟩) (fun hHeld => ?_)
            clear hK KK
            refine wpAnyH_ready (rs := [11]) (by kernel_rfl) (by simp) ?_
            refine (AllReadyH.cons rfl (fun KK hK => ?_) AllReadyH.nil)
            have u0 := H13.out.2.2 0 _ rfl
            have u1 := H13.out.2.2 1 _ rfl
            have f0 := H13.out.2.1 0
            have f1 := H13.out.2.1 1
            have uz := H13.out.1
            have hst := store_slT
            go_simp
            obtain ⟨v0_3, hv_⟩ : ∃ z, z = (v0_2.setCell ⟨g13, 0, none⟩ (.int .i64 (x + (i : Int) + 1))).setCell ⟨g13, 1, none⟩ (.slice s0 na c0) := ⟨_, rfl⟩
            rw [← hv_]
            have b9 : Beside g13 v0_2 v0_3 := by rw [hv_]; exact (Beside.setCell g13 _ 0 _).trans (Beside.setCell g13 _ 1 _)
            replace H13 : Hid (Blk v0_3 g13 [.int .i64 (x + (i : Int) + 1), .slice s0 na c0]) := by show Blk _ _ _; rw [hv_]; exact (H13.out.set 0 _).set 1 _
            replace H11 : Hid (Blk v0_3 g11 [.int .i64 (x + (i : Int)), .slice sa na ca]) := H11.out.beside b9 (by omega)
            replace HAi : Hid (RowAlarm v0_3 sa na (bqV x na V Z i)) := HAi.out.besideP b9 HNS.out
            replace HW : Hid (Below w7.heap.size w7 v0_3) := HW.out.trans (b9.below z70 HW.out.size)
            replace HZc : Hid (zb < v0_3.heap.size ∧ v0_3.cell? ⟨zb, zo + i * 4, none⟩ = some (.int .i64 ((Z i).1)) ∧ v0_3.cell? ⟨zb, zo + i * 4 + 1, none⟩ = some (.slice p1 ((Z i).2.1) d1) ∧ v0_3.cell? ⟨zb, zo + i * 4 + 2, none⟩ = some (.slice p2 ((Z i).2.2.2.1) d2) ∧ v0_3.cell? ⟨zb, zo + i * 4 + 3, none⟩ = some (.slice p3 ((Z i).2.2.2.2.2.1) d3)) := ⟨Nat.lt_of_lt_of_le HZc.out.1 b9.2.2.2.1, (b9.cell (p := ⟨zb, zo + i * 4, none⟩) HZc.out.1 HNZ.out).trans HZc.out.2.1, (b9.cell (p := ⟨zb, zo + i * 4 + 1, none⟩) HZc.out.1 HNZ.out).trans HZc.out.2.2.1, (b9.cell (p := ⟨zb, zo + i * 4 + 2, none⟩) HZc.out.1 HNZ.out).trans HZc.out.2.2.2.1, (b9.cell (p := ⟨zb, zo + i * 4 + 3, none⟩) HZc.out.1 HNZ.out).trans HZc.out.2.2.2.2⟩
            replace HNX : Hid (∃ Bn, g11 < Bn ∧ OwnAlarm Bn v0_3 s0 na (bqV x na V Z (i + 1))) := by obtain ⟨Bn, h1_, h2_⟩ := HNX.out; exact ⟨Bn, h1_, h2_.besideP b9 HNA.out⟩
            replace HTL : Hid (RowI v0_3 s7 tl (nthI (bqL x na V Z i))) := HTL.out.besideP b9 HNT.out
            clear hv_ b9 u0 u1 f0 f1 uz hst
            refine hK.out _ _ (⟨H11.out.2.2 0 _ rfl, H11.out.2.2 1 _ rfl, HZc.out.2.1, HZc.out.2.2.1, HZc.out.2.2.2.1, HZc.out.2.2.2.2, H11.out.1, HZc.out.1⟩) (fun hHeld => ?_)
            clear hK KK
            refine wpAnyH_ready (rs := [12]) (by kernel_rfl) (by simp) ?_
            refine (AllReadyH.cons rfl (fun KK hK => ?_) AllReadyH.nil)
            go_simp
            refine hK.out _ _ (⟨H11.out.2.2 0 _ rfl, H11.out.2.2 1 _ rfl, HZc.out.2.1, HZc.out.2.2.1, HZc.out.2.2.2.1, HZc.out.2.2.2.2, H11.out.1, HZc.out.1⟩) (fun hHeld => ?_)
            clear hK KK
            refine wpAnyH_ready (rs := [13]) (by kernel_rfl) (by simp) ?_
            refine (AllReadyH.cons rfl (fun KK hK => ?_) AllReadyH.nil)
            go_simp
            refine hK.out _ _ (⟨H11.out.2.2 0 _ rfl, H11.out.2.2 1 _ rfl, HZc.out.2.1, HZc.out.2.2.1, HZc.out.2.2.2.1, HZc.out.2.2.2.2, H11.out.1, HZc.out.1⟩) (fun hHeld => ?_)
            clear hK KK
            refine wpAnyH_done (by kernel_rfl) ?_ _
            clear hHeld
            go_wp2_with fail
            go_meet
            exact ⟨g13, s0, c0, s7, tl, c7, rfl, rfl, rfl, hle, z13, HTl, H13, HNX, HTL, H11, HAi, HSN, HW⟩
          · go_simp
            obtain ⟨v0_6, hv_⟩ : ∃ z, z = v0.alloc (.cells #[.int .i64 0, .slice none 0 0] 26) := ⟨_, rfl⟩
            rw [← hv_]
            obtain ⟨g13, hg13⟩ : ∃ z, z = v0.heap.size := ⟨_, rfl⟩
            have b_ : Below v0.heap.size v0 v0_6 := by rw [hv_]; exact below0 _ _
            have H13 : Hid (Blk v0_6 g13 [.int .i64 0, .slice none 0 0]) := by show Blk _ _ _; rw [hv_, hg13]; exact Blk.new v0 #[.int .i64 0, .slice none 0 0] _
            have z13 : g11 < g13 := by have := H11.out.1; omega
            have z70 : w7.heap.size ≤ g13 := by have := HW.out.size; omega
            have HNS : Hid (0 < na → ∀ g o, sa = some ⟨g, o, none⟩ → g ≠ g13) := fun h_ g o e => by have := HAi.out.ltP h_ g o e; omega
            have HNZ : Hid (zb ≠ g13) := by have := HZc.out.1; show zb ≠ g13; omega
            replace H11 : Hid (Blk v0_6 g11 [.int .i64 (x + (i : Int)), .slice sa na ca]) := H11.out.below b_
            replace HAi : Hid (RowAlarm v0_6 sa na (bqV x na V Z i)) := HAi.out.below b_
            replace HW : Hid (Below w7.heap.size w7 v0_6) := HW.out.trans (b_.mono HW.out.size)
            replace HZc : Hid (zb < v0_6.heap.size ∧ v0_6.cell? ⟨zb, zo + i * 4, none⟩ = some (.int .i64 ((Z i).1)) ∧ v0_6.cell? ⟨zb, zo + i * 4 + 1, none⟩ = some (.slice p1 ((Z i).2.1) d1) ∧ v0_6.cell? ⟨zb, zo + i * 4 + 2, none⟩ = some (.slice p2 ((Z i).2.2.2.1) d2) ∧ v0_6.cell? ⟨zb, zo + i * 4 + 3, none⟩ = some (.slice p3 ((Z i).2.2.2.2.2.1) d3)) := ⟨Nat.lt_of_lt_of_le HZc.out.1 b_.size, (b_.cell (p := ⟨zb, zo + i * 4, none⟩) HZc.out.1).trans HZc.out.2.1, (b_.cell (p := ⟨zb, zo + i * 4 + 1, none⟩) HZc.out.1).trans HZc.out.2.2.1, (b_.cell (p := ⟨zb, zo + i * 4 + 2, none⟩) HZc.out.1).trans HZc.out.2.2.2.1, (b_.cell (p := ⟨zb, zo + i * 4 + 3, none⟩) HZc.out.1).trans HZc.out.2.2.2.2⟩
            replace HT1 : Hid (RowB v0_6 p1 ((Z i).2.1) ((Z i).2.2.1)) := HT1.out.below b_
            replace HT2 : Hid (RowI v0_6 p2 ((Z i).2.2.2.1) ((Z i).2.2.2.2.1)) := HT2.out.below b_
            replace HT3 : Hid (RowShelf v0_6 p3 ((Z i).2.2.2.2.2.1) ((Z i).2.2.2.2.2.2)) := HT3.out.below b_
            try rw [← hg13]
            clear hv_ hg13 b_
            refine hK.out _ _ (⟨H11.out.2.2 0 _ rfl, H11.out.2.2 1 _ rfl, HZc.out.2.1, HZc.out.2.2.1, HZc.out.2.2.2.1, HZc.out.2.2.2.2, H11.out.1, HZc.out.1⟩) (fun hHeld => ?_)
            clear hK KK
            refine wpAnyH_ready (rs := [5]) (by kernel_rfl) (by simp) ?_
            refine (AllReadyH.cons rfl (fun KK hK => ?_) AllReadyH.nil)
            have HzG : Hid (g11 < v0_6.heap.size) := H11.out.1
            go_simp
            go_wp2_with (first | (go_at_call 13; refine (implBoardStep_any (x + (i : Int)) sa na ca (bqV x na V Z i) ((Z i).1) p1 ((Z i).2.1) d1 ((Z i).2.2.1) p2 ((Z i).2.2.2.1) d2 ((Z i).2.2.2.2.1) p3 ((Z i).2.2.2.2.2.1) d3 ((Z i).2.2.2.2.2.2) _ (by omega) (HZb.out i hi).1 (HZb.out i hi).2.1 (HZb.out i hi).2.2 HAi HT1 HT2 HT3).mono ?_; rintro e v0_7 hB; obtain ⟨s0, c0, s7, c7, rfl, hn9, ht9, b9⟩ := bs_step (HO.out i hi) hB))
            obtain ⟨tl, htl⟩ : ∃ tl, (bqL x na V Z i).length = tl := ⟨_, rfl⟩
            have hle := told_len x na V Z i
            rw [htl] at ht9 hle
            rw [htl]
            have HTl : Hid ((bqL x na V Z i).length = tl) := htl
            have HNX : Hid (∃ Bn, g11 < Bn ∧ OwnAlarm Bn v0_7 s0 na (bqV x na V Z (i + 1))) := ⟨_, HzG.out, hn9⟩
            have HTL : Hid (RowI v0_7 s7 tl (nthI (bqL x na V Z i))) := ht9.row
            have HNA : Hid (0 < na → ∀ g, s0 = some ⟨g, 0, none⟩ → g ≠ g13) := fun h_ g e => by have h1_ := (hn9.geP h_ g 0 e).1; have h2_ := H13.out.1; omega
            have HNT : Hid (0 < tl → ∀ g o, s7 = some ⟨g, o, none⟩ → g ≠ g13) := fun h_ g o e => by have h1_ := ht9.geP h_ g o e; have h2_ := H13.out.1; omega
            replace H11 : Hid (Blk v0_7 g11 [.int .i64 (x + (i : Int)), .slice sa na ca]) := H11.out.below b9
            replace HAi : Hid (RowAlarm v0_7 sa na (bqV x na V Z i)) := HAi.out.below b9
            replace HW : Hid (Below w7.heap.size w7 v0_7) := HW.out.trans (b9.mono HW.out.size)
            replace HZc : Hid (zb < v0_7.heap.size ∧ v0_7.cell? ⟨zb, zo + i * 4, none⟩ = some (.int .i64 ((Z i).1)) ∧ v0_7.cell? ⟨zb, zo + i * 4 + 1, none⟩ = some (.slice p1 ((Z i).2.1) d1) ∧ v0_7.cell? ⟨zb, zo + i * 4 + 2, none⟩ = some (.slice p2 ((Z i).2.2.2.1) d2) ∧ v0_7.cell? ⟨zb, zo + i * 4 + 3, none⟩ = some (.slice p3 ((Z i).2.2.2.2.2.1) d3)) := ⟨Nat.lt_of_lt_of_le HZc.out.1 b9.size, (b9.cell (p := ⟨zb, zo + i * 4, none⟩) HZc.out.1).trans HZc.out.2.1, (b9.cell (p := ⟨zb, zo + i * 4 + 1, none⟩) HZc.out.1).trans HZc.out.2.2.1, (b9.cell (p := ⟨zb, zo + i * 4 + 2, none⟩) HZc.out.1).trans HZc.out.2.2.2.1, (b9.cell (p := ⟨zb, zo + i * 4 + 3, none⟩) HZc.out.1).trans HZc.out.2.2.2.2⟩
            have HT1_ : Hid (RowB v0_7 p1 ((Z i).2.1) ((Z i).2.2.1)) := HT1.out.below b9
            have HT2_ : Hid (RowI v0_7 p2 ((Z i).2.2.2.1) ((Z i).2.2.2.2.1)) := HT2.out.below b9
            have HT3_ : Hid (RowShelf v0_7 p3 ((Z i).2.2.2.2.2.1) ((Z i).2.2.2.2.2.2)) := HT3.out.below b9
            replace H13 : Hid (Blk v0_7 g13 [.int .i64 0, .slice none 0 0]) := H13.out.below b9
            clear b9 hB htl hn9 ht9 HzG HT1 HT2 HT3 HT1_ HT2_ HT3_
            refine hK.out _ _ (⟨H11.out.2.2 0 _ rfl, H11.out.2.2 1 _ rfl, HZc.out.2.1, HZc.out.2.2.1, HZc.out.2.2.2.1, HZc.out.2.2.2.2, H11.out.1, HZc.out.1⟩) (fun hHeld => ?_)
            clear hK KK
            refine wpAnyH_take (i := 6) (v := .tuple #[.agg #[.int .i64 (x + (i : Int) + 1), .slice s0 na c0], .slice s7 tl c7, .bool true]) rfl (by kernel_rfl) (by kernel_rfl) (by kernel_rfl) (fun _ _ _ h => h) (Or.inl ⟨by kernel_rfl, ?_⟩) hHeld ?_
            · intro w' hSw
              obtain ⟨hc0, hc1, hc2, hc3, hc4, hc5, hz0, hz1⟩ := hSw
              first | (go_simp; done) | (go_simp; with_reducible rfl) | (go_simp; rw [IntKind.wrap_i64]; omega) | (go_simp; omega)
            simp only [Act.put, List.setIfInBounds_toArray, List.set_cons_zero, List.set_cons_succ]
            refine wpAnyH_take (i := 7) (v := .agg #[.int .i64 (x + (i : Int) + 1), .slice s0 na c0]) rfl (by kernel_rfl) (by kernel_rfl) (by kernel_rfl) (fun _ _ _ h => h) (Or.inl ⟨by kernel_rfl, ?_⟩) hHeld ?_
            · intro w' hSw
              obtain ⟨hc0, hc1, hc2, hc3, hc4, hc5, hz0, hz1⟩ := hSw
              first | (go_simp; done) | (go_simp; with_reducible rfl) | (go_simp; rw [IntKind.wrap_i64]; omega) | (go_simp; omega)
            simp only [Act.put, List.setIfInBounds_toArray, List.set_cons_zero, List.set_cons_succ]
            refine wpAnyH_take (i := 8) (v := .slice s7 tl c7) rfl (by kernel_rfl) (by kernel_rfl) (by kernel_rfl) (fun _ _ _ h => h) (Or.inl ⟨by kernel_rfl, ?_⟩) hHeld ?_
            · intro w' hSw
              obtain ⟨hc0, hc1, hc2, hc3, hc4, hc5, hz0, hz1⟩ := hSw
              first | (go_simp; done) | (go_simp; with_reducible rfl) | (go_simp; rw [IntKind.wrap_i64]; omega) | (go_simp; omega)
            simp only [Act.put, List.setIfInBounds_toArray, List.set_cons_zero, List.set_cons_succ]
            refine wpAnyH_take (i := 9) (v := .bool true) rfl (by kernel_rfl) (by kernel_rfl) (by kernel_rfl) (fun _ _ _ h => h) (Or.inl ⟨by kernel_rfl, ?_⟩) hHeld ?_
            · intro w' hSw
              obtain ⟨hc0, hc1, hc2, hc3, hc4, hc5, hz0, hz1⟩ := hSw
              first | (go_simp; done) | (go_simp; with_reducible rfl) | (go_simp; rw [IntKind.wrap_i64]; omega) | (go_simp; omega)
            simp only [Act.put, List.setIfInBounds_toArray, List.set_cons_zero, List.set_cons_succ]
            refine wpAnyH_ready (rs := [11]) (by kernel_rfl) (by simp) ?_
            refine (AllReadyH.cons rfl (fun KK hK => ?_) AllReadyH.nil)
            have u0 := H13.out.2.2 0 _ rfl
            have u1 := H13.out.2.2 1 _ rfl
            have f0 := H13.out.2.1 0
            have f1 := H13.out.2.1 1
            have uz := H13.out.1
            have hst := store_slT
            go_simp
            obtain ⟨v0_8, hv_⟩ : ∃ z, z = (v0_7.setCell ⟨g13, 0, none⟩ (.int .i64 (x + (i : Int) + 1))).setCell ⟨g13, 1, none⟩ (.slice s0 na c0) := ⟨_, rfl⟩
            rw [← hv_]
            have b9 : Beside g13 v0_7 v0_8 := by rw [hv_]; exact (Beside.setCell g13 _ 0 _).trans (Beside.setCell g13 _ 1 _)
            replace H13 : Hid (Blk v0_8 g13 [.int .i64 (x + (i : Int) + 1), .slice s0 na c0]) := by show Blk _ _ _; rw [hv_]; exact (H13.out.set 0 _).set 1 _
            replace H11 : Hid (Blk v0_8 g11 [.int .i64 (x + (i : Int)), .slice sa na ca]) := H11.out.beside b9 (by omega)
            replace HAi : Hid (RowAlarm v0_8 sa na (bqV x na V Z i)) := HAi.out.besideP b9 HNS.out
            replace HW : Hid (Below w7.heap.size w7 v0_8) := HW.out.trans (b9.below z70 HW.out.size)
            replace HZc : Hid (zb < v0_8.heap.size ∧ v0_8.cell? ⟨zb, zo + i * 4, none⟩ = some (.int .i64 ((Z i).1)) ∧ v0_8.cell? ⟨zb, zo + i * 4 + 1, none⟩ = some (.slice p1 ((Z i).2.1) d1) ∧ v0_8.cell? ⟨zb, zo + i * 4 + 2, none⟩ = some (.slice p2 ((Z i).2.2.2.1) d2) ∧ v0_8.cell? ⟨zb, zo + i * 4 + 3, none⟩ = some (.slice p3 ((Z i).2.2.2.2.2.1) d3)) := ⟨Nat.lt_of_lt_of_le HZc.out.1 b9.2.2.2.1, (b9.cell (p := ⟨zb, zo + i * 4, none⟩) HZc.out.1 HNZ.out).trans HZc.out.2.1, (b9.cell (p := ⟨zb, zo + i * 4 + 1, none⟩) HZc.out.1 HNZ.out).trans HZc.out.2.2.1, (b9.cell (p := ⟨zb, zo + i * 4 + 2, none⟩) HZc.out.1 HNZ.out).trans HZc.out.2.2.2.1, (b9.cell (p := ⟨zb, zo + i * 4 + 3, none⟩) HZc.out.1 HNZ.out).trans HZc.out.2.2.2.2⟩
            replace HNX : Hid (∃ Bn, g11 < Bn ∧ OwnAlarm Bn v0_8 s0 na (bqV x na V Z (i + 1))) := by obtain ⟨Bn, h1_, h2_⟩ := HNX.out; exact ⟨Bn, h1_, h2_.besideP b9 HNA.out⟩
            replace HTL : Hid (RowI v0_8 s7 tl (nthI (bqL x na V Z i))) := HTL.out.besideP b9 HNT.out
            clear hv_ b9 u0 u1 f0 f1 uz hst
            refine hK.out _ _ (⟨H11.out.2.2 0 _ rfl, H11.out.2.2 1 _ rfl, HZc.out.2.1, HZc.out.2.2.1, HZc.out.2.2.2.1, HZc.out.2.2.2.2, H11.out.1, HZc.out.1⟩) (fun hHeld => ?_)
            clear hK KK
            refine wpAnyH_ready (rs := [12]) (by kernel_rfl) (by simp) ?_
            refine (AllReadyH.cons rfl (fun KK hK => ?_) AllReadyH.nil)
            go_simp
            refine hK.out _ _ (⟨H11.out.2.2 0 _ rfl, H11.out.2.2 1 _ rfl, HZc.out.2.1, HZc.out.2.2.1, HZc.out.2.2.2.1, HZc.out.2.2.2.2, H11.out.1, HZc.out.1⟩) (fun hHeld => ?_)
            clear hK KK
            refine wpAnyH_ready (rs := [13]) (by kernel_rfl) (by simp) ?_
            refine (AllReadyH.cons rfl (fun KK hK => ?_) AllReadyH.nil)
            go_simp
            refine hK.out _ _ (⟨H11.out.2.2 0 _ rfl, H11.out.2.2 1 _ rfl, HZc.out.2.1, HZc.out.2.2.1, HZc.out.2.2.2.1, HZc.out.2.2.2.2, H11.out.1, HZc.out.1⟩) (fun hHeld => ?_)
            clear hK KK
            refine wpAnyH_done (by kernel_rfl) ?_ _
            clear hHeld
            go_wp2_with fail
            go_meet
            exact ⟨g13, s0, c0, s7, tl, c7, rfl, rfl, rfl, hle, z13, HTl, H13, HNX, HTL, H11, HAi, HSN, HW⟩
        clear H11 HAi HW HZc HT1 HT2 HT3
        obtain ⟨g13, s0, c0, s7, tl, c7, rfl, rfl, rfl, hle, z13, HTl, H13, HNX, HTL, H11, HAi, -, HW⟩ := hcut
        rename World => wa
        obtain ⟨ab, ao, pa, pcap, rfl, az, ac_, ar⟩ := (HLL.out.below HW.out) i hi
        have eK : bqK x na V Z i = tl := HTl.out
        rw [eK] at ac_ ar
        have HAR : Hid (RowI wa pa tl (nthI (bqL x na V Z i))) := ar
        have HAL : Hid (ab < wa.heap.size ∧ wa.cell? ⟨ab, ao + i, none⟩ = some (.slice pa tl pcap)) := ⟨az, ac_⟩
        clear eK az ac_ ar
        have HNXr : Hid (RowAlarm wa s0 na (bqV x na V Z (i + 1))) := by obtain ⟨Bn, -, q_⟩ := HNX.out; exact q_.row
        have HBN : Hid (boardB (x + (i : Int) + 1) na (bqV x na V Z (i + 1)) = true) := by
          have q_ := HBd.out (i + 1) (by omega)
          rw [show x + ((i + 1 : Nat) : Int) = x + (i : Int) + 1 by omega] at q_
          exact q_
        have H3x : Hid (Blk wa g3 [.int .i64 x, .slice t na ac]) := H3.out.below HW.out
        have a0 := H13.out.2.2 0 _ rfl
        have a1 := H13.out.2.2 1 _ rfl
        have az := H13.out.1
        go_wp2_with fail
        refine (implBoardOk_any (x + (i : Int) + 1) s0 na c0 (bqV x na V Z (i + 1)) _ (by omega) HNXr).mono ?_
        rintro e wb ⟨rfl, b9⟩
        rw [HBN.out]
        clear a0 a1 az
        replace H13 : Hid (Blk wb g13 [.int .i64 (x + (i : Int) + 1), .slice s0 na c0]) := H13.out.below b9
        replace H11 : Hid (Blk wb g11 [.int .i64 (x + (i : Int)), .slice sa na ca]) := H11.out.below b9
        replace H3x : Hid (Blk wb g3 [.int .i64 x, .slice t na ac]) := H3x.out.below b9
        replace HNX : Hid (∃ Bn, g11 < Bn ∧ OwnAlarm Bn wb s0 na (bqV x na V Z (i + 1))) := by obtain ⟨Bn, h1_, h2_⟩ := HNX.out; exact ⟨Bn, h1_, h2_.belowA b9⟩
        replace HNXr : Hid (RowAlarm wb s0 na (bqV x na V Z (i + 1))) := HNXr.out.below b9
        replace HTL : Hid (RowI wb s7 tl (nthI (bqL x na V Z i))) := HTL.out.below b9
        replace HAi : Hid (RowAlarm wb sa na (bqV x na V Z i)) := HAi.out.below b9
        replace HW : Hid (Below w7.heap.size w7 wb) := HW.out.trans (b9.mono HW.out.size)
        replace HAR : Hid (RowI wb pa tl (nthI (bqL x na V Z i))) := HAR.out.below b9
        replace HAL : Hid (ab < wb.heap.size ∧ wb.cell? ⟨ab, ao + i, none⟩ = some (.slice pa tl pcap)) := ⟨Nat.lt_of_lt_of_le HAL.out.1 b9.size, (b9.cell (p := ⟨ab, ao + i, none⟩) HAL.out.1).trans HAL.out.2⟩
        clear b9
        have hge : ¬ (m : Int) ≤ (i : Int) := by omega
        have l1 := HAL.out.2
        have lz := HAL.out.1
        go_wp2_with fail
        refine (sameInts_any s7 pa tl c7 pcap (nthI (bqL x na V Z i)) _ (by omega) HTL HAR).mono ?_
        rintro e wd ⟨rfl, b9⟩
        clear l1 lz hge
        replace H13 : Hid (Blk wd g13 [.int .i64 (x + (i : Int) + 1), .slice s0 na c0]) := H13.out.below b9
        replace H11 : Hid (Blk wd g11 [.int .i64 (x + (i : Int)), .slice sa na ca]) := H11.out.below b9
        replace H3x : Hid (Blk wd g3 [.int .i64 x, .slice t na ac]) := H3x.out.below b9
        replace HNX : Hid (∃ Bn, g11 < Bn ∧ OwnAlarm Bn wd s0 na (bqV x na V Z (i + 1))) := by obtain ⟨Bn, h1_, h2_⟩ := HNX.out; exact ⟨Bn, h1_, h2_.belowA b9⟩
        replace HNXr : Hid (RowAlarm wd s0 na (bqV x na V Z (i + 1))) := HNXr.out.below b9
        replace HTL : Hid (RowI wd s7 tl (nthI (bqL x na V Z i))) := HTL.out.below b9
        replace HAi : Hid (RowAlarm wd sa na (bqV x na V Z i)) := HAi.out.below b9
        replace HW : Hid (Below w7.heap.size w7 wd) := HW.out.trans (b9.mono HW.out.size)
        replace HAR : Hid (RowI wd pa tl (nthI (bqL x na V Z i))) := HAR.out.below b9
        replace HAL : Hid (ab < wd.heap.size ∧ wd.cell? ⟨ab, ao + i, none⟩ = some (.slice pa tl pcap)) := ⟨Nat.lt_of_lt_of_le HAL.out.1 b9.size, (b9.cell (p := ⟨ab, ao + i, none⟩) HAL.out.1).trans HAL.out.2⟩
        clear b9 HAR HAL
        have enn : ((na : Int) != (na : Int)) = false := by simp
        have a1 := H13.out.2.2 1 _ rfl
        have az := H13.out.1
        have c1 := H3x.out.2.2 1 _ rfl
        have cz := H3x.out.1
        go_wp2_with fail
        clear enn a1 az c1 cz H3x
        go_loopw [16] (fun v16 wx => ∃ k : Nat, v16 = .int .i64 (k : Int) ∧ k ≤ tl ∧ Hid (Below wd.heap.size wd wx)) (fun v16 _ => tl - (intOf v16).toNat)
        case atStart => exact ⟨0, rfl, Nat.zero_le _, Below.refl _ _⟩
        case round =>
          obtain ⟨k, rfl, hk0, HWi⟩ := hrel
          rename World => we
          by_cases hk : k < tl
          case pos =>
            have hki : (k : Int) < (tl : Int) := by omega
            obtain ⟨j, ej, hj, st1, st2, st3⟩ := told_at (x := x) (n := na) (V := V) (Z := Z) (i := i) (k := k) (by rw [HTl.out]; exact hk)
            obtain ⟨tb, oo, rfl, tz, tc⟩ := (HTL.out.below HWi.out) k hk
            rw [ej] at tc
            obtain ⟨qb, qo, rfl, qz, q0, q1, q2, q3, q4⟩ := (HAi.out.below HWi.out) j hj
            obtain ⟨vb, vo, rfl, vz, v0, v1, v2, v3, v4⟩ := (HNXr.out.below HWi.out) j hj
            rw [st3] at v2
            obtain ⟨T1, hT1⟩ : ∃ T, (bqV x na V Z i j).2.2.1 = T := ⟨_, rfl⟩
            rw [hT1] at q2 st1 st2
            have t1_ : (T1 == 1) = false := beq_false_of_ne st1
            have t2_ : (T1 == 2) = false := beq_false_of_ne st2
            have hji : (j : Int) < (na : Int) := by omega
            clear q0 q1 q3 q4 v0 v1 v3 v4 hT1 st1 st2 st3 ej
            have H11e : Hid (Blk we g11 [.int .i64 (x + (i : Int)), .slice (some ⟨qb, qo, none⟩) na ca]) := H11.out.below HWi.out
            have H13e : Hid (Blk we g13 [.int .i64 (x + (i : Int) + 1), .slice (some ⟨vb, vo, none⟩) na c0]) := H13.out.below HWi.out
            have a1 := H11e.out.2.2 1 _ rfl
            have az := H11e.out.1
            have e1 := H13e.out.2.2 1 _ rfl
            have ez := H13e.out.1
            go_wp2_with fail
            go_quiet (fail)
            all_goals
              go_wp2_with fail
              go_quiet (fail)
              all_goals
                go_wp2
                go_roundw
                case rel => exact ⟨k + 1, by go_num, by omega, (by first | exact HWi | exact HWi.out | exact bDrewN HWi.out _ | exact bDrewN (bDrewN HWi.out _) _)⟩
                case measure => first | (simp [intOf]; done) | (simp [intOf]; omega)
          case neg =>
            obtain rfl : tl = k := by omega
            have hki : ¬ (tl : Int) < (tl : Int) := by omega
            have H11e : Hid (Blk we g11 [.int .i64 (x + (i : Int)), .slice sa na ca]) := H11.out.below HWi.out
            have H13e : Hid (Blk we g13 [.int .i64 (x + (i : Int) + 1), .slice s0 na c0]) := H13.out.below HWi.out
            have a0 := H13e.out.2.2 0 _ rfl
            have a1 := H13e.out.2.2 1 _ rfl
            have az := H13e.out.1
            have e0 := H11e.out.2.2 0 _ rfl
            have e1 := H11e.out.2.2 1 _ rfl
            have ez := H11e.out.1
            have f0 := H11e.out.2.1 0
            have f1 := H11e.out.2.1 1
            have hst := store_slT
            go_upto_region 13 with fail
            obtain ⟨wf, hv_⟩ : ∃ z, z = (we.setCell ⟨g11, 0, none⟩ (.int .i64 (x + (i : Int) + 1))).setCell ⟨g11, 1, none⟩ (.slice s0 na c0) := ⟨_, rfl⟩
            rw [← hv_]
            have b9 : Beside g11 we wf := by rw [hv_]; exact (Beside.setCell g11 _ 0 _).trans (Beside.setCell g11 _ 1 _)
            have H11n : Hid (Blk wf g11 [.int .i64 (x + ((i + 1 : Nat) : Int)), .slice s0 na c0]) := by
              show Blk _ _ _
              rw [show x + ((i + 1 : Nat) : Int) = x + (i : Int) + 1 by omega, hv_]
              exact (H11e.out.set 0 _).set 1 _
            have HWn : Hid (Below w7.heap.size w7 wf) := (HW.out.trans (HWi.out.mono HW.out.size)).trans (b9.below z711 (Nat.le_trans HW.out.size HWi.out.size))
            have HAn : Hid (RowAlarm wf s0 na (bqV x na V Z (i + 1))) := by obtain ⟨Bn, h1_, h2_⟩ := HNX.out; exact ((h2_.belowA HWi.out).besideA b9 h1_).row
            have HSn : Hid (0 < na → ∀ g o, s0 = some ⟨g, o, none⟩ → g ≠ g11) := fun h_ g o e => by obtain ⟨Bn, h1_, h2_⟩ := HNX.out; have := (h2_.geP h_ g o e).1; omega
            clear hv_ b9 a0 a1 az e0 e1 ez f0 f1 hst
            go_wp2_with fail
            go_roundw
            case rel => exact ⟨i + 1, s0, c0, by go_num, by omega, H11n, HAn, HSn, HWn⟩
            case measure => first | (simp [intOf]; done) | (simp [intOf]; omega)
      case neg =>
        obtain rfl : m = i := by omega
        have hmn : ¬ (m : Int) < (m : Int) := by omega
        replace H9 : Hid (Blk wr g9 [.int .i64 (x + (m : Int)), .slice tu1 na du1]) := H9.out.below HW.out
        obtain ⟨VV, hVV⟩ : ∃ VV, VV = bqV x na V Z m := ⟨_, rfl⟩
        have HEr : Hid (RowAlarm wr tu1 na VV) := by show RowAlarm _ _ _ _; rw [hVV]; exact HE.out.below HW.out
        have HBm : Hid (boardB (x + (m : Int)) na VV = true) := by show _ = _; rw [hVV]; exact HBd.out m (Nat.le_refl _)
        have HSr : Hid (Below w.heap.size w wr) := HS.out.trans (HW.out.mono HS.out.size)
        clear hVV H11 HAi HSN HW HE HBd HO
        go_wp2_with fail
        go_loopw [18] (fun v18 wx => ∃ g : Nat, v18 = .int .i64 (g : Int) ∧ 1 ≤ g ∧ g ≤ 10 ∧ Hid (Below wr.heap.size wr wx)) (fun v18 _ => 10 - (intOf v18).toNat)
        case atStart => exact ⟨1, rfl, by omega, by omega, Below.refl _ _⟩
        case round =>
          obtain ⟨g, rfl, hg1, hg2, HW⟩ := hrel
          rename World => wg
          by_cases hg : g ≤ 9
          case pos =>
            have hgi : (g : Int) ≤ 9 := by omega
            go_wp2_with fail
            go_loopw [19, 20] (fun v19 v20 wx => ∃ (k : Nat) (q : Bool), v19 = .bool q ∧ v20 = .int .i64 (k : Int) ∧ k ≤ na ∧ Hid (q = true → ∀ j, j < k → (VV j).1 ≠ (g : Int) ∨ (VV j).2.2.1 = 0) ∧ Hid (Below wg.heap.size wg wx)) (fun v19 v20 _ => na - (intOf v20).toNat)
            case atStart => exact ⟨0, true, rfl, rfl, Nat.zero_le _, fun _ j hj => absurd hj (Nat.not_lt_zero _), Below.refl _ _⟩
            case round =>
              obtain ⟨k, q, rfl, rfl, hk0, HQ, HWi⟩ := hrel
              rename World => wh
              have HWh : Hid (Below wr.heap.size wr wh) := HW.out.trans (HWi.out.mono HW.out.size)
              have H9h : Hid (Blk wh g9 [.int .i64 (x + (m : Int)), .slice tu1 na du1]) := H9.out.below HWh.out
              by_cases hk : k < na
              case pos =>
                have hki : (k : Int) < (na : Int) := by omega
                obtain ⟨qb, qo, rfl, qz, q0, q1, q2, q3, q4⟩ := (HEr.out.below HWh.out) k hk
                obtain ⟨G, hG⟩ : ∃ G, (VV k).1 = G := ⟨_, rfl⟩
                obtain ⟨T, hT⟩ : ∃ T, (VV k).2.2.1 = T := ⟨_, rfl⟩
                have HGT : Hid ((VV k).1 = G ∧ (VV k).2.2.1 = T) := ⟨hG, hT⟩
                rw [hG] at q0
                rw [hT] at q2
                have a1 := H9h.out.2.2 1 _ rfl
                have az := H9h.out.1
                clear q1 q3 q4 hG hT
                have hon : ∀ q' : Bool, (q' = true → q = true ∧ (G ≠ (g : Int) ∨ T = 0)) → Hid (q' = true → ∀ j, j < k + 1 → (VV j).1 ≠ (g : Int) ∨ (VV j).2.2.1 = 0) := fun q' h_ z j hj => by
                  obtain ⟨h1_, h2_⟩ := h_ z
                  by_cases e : j = k
                  · subst e; rw [HGT.out.1, HGT.out.2]; exact h2_
                  · exact HQ.out h1_ j (by omega)
                cases q
                case false =>
                  have HN : Hid (false = true → ∀ j, j < k + 1 → (VV j).1 ≠ (g : Int) ∨ (VV j).2.2.1 = 0) := fun z => by cases z
                  clear hon
                  go_wp2_with fail
                  go_roundw
                  case rel => exact ⟨k + 1, false, rfl, by go_num, by omega, HN, HWi⟩
                  case measure => first | (simp [intOf]; done) | (simp [intOf]; omega)
                case true =>
                  by_cases hGg : G = (g : Int)
                  case pos =>
                    have hb1 : (G != (g : Int)) = false := by rw [hGg]; simp
                    by_cases hT0 : T = 0
                    case pos =>
                      have hb2 : (T == 0) = true := by rw [beq_iff_eq]; exact hT0
                      have HN := hon true fun _ => ⟨rfl, .inr hT0⟩
                      clear hon hT0 hGg
                      go_wp2_with fail
                      go_roundw
                      case rel => exact ⟨k + 1, true, rfl, by go_num, by omega, HN, HWi⟩
                      case measure => first | (simp [intOf]; done) | (simp [intOf]; omega)
                    case neg =>
                      have hb2 : (T == 0) = false := beq_false_of_ne hT0
                      have HN : Hid (false = true → ∀ j, j < k + 1 → (VV j).1 ≠ (g : Int) ∨ (VV j).2.2.1 = 0) := fun z => by cases z
                      clear hon hT0 hGg
                      go_wp2_with fail
                      go_roundw
                      case rel => exact ⟨k + 1, false, rfl, by go_num, by omega, HN, HWi⟩
                      case measure => first | (simp [intOf]; done) | (simp [intOf]; omega)
                  case neg =>
                    have hb1 : (G != (g : Int)) = true := by simpa using hGg
                    have HN := hon true fun _ => ⟨rfl, .inl hGg⟩
                    clear hon hGg
                    go_wp2_with fail
                    go_roundw
                    case rel => exact ⟨k + 1, true, rfl, by go_num, by omega, HN, HWi⟩
                    case measure => first | (simp [intOf]; done) | (simp [intOf]; omega)
              case neg =>
                obtain rfl : na = k := by omega
                have hkn : ¬ (na : Int) < (na : Int) := by omega
                have HEh : Hid (RowAlarm wh tu1 na VV) := HEr.out.below HWh.out
                have a0 := H9h.out.2.2 0 _ rfl
                have a1 := H9h.out.2.2 1 _ rfl
                have az := H9h.out.1
                go_wp2_with fail
                refine (implFirstOf_any (x + (m : Int)) tu1 na du1 VV (g : Int) _ (by omega) HEh).mono ?_
                rintro e wi ⟨rfl, b9⟩
                clear a0 a1 az hkn
                have H9i : Hid (Blk wi g9 [.int .i64 (x + (m : Int)), .slice tu1 na du1]) := H9h.out.below b9
                have HEi : Hid (RowAlarm wi tu1 na VV) := HEh.out.below b9
                have HWn : Hid (Below wr.heap.size wr wi) := HWh.out.trans (b9.mono HWh.out.size)
                clear b9
                rcases fir_use (g := (g : Int)) HBm.out with hf | ⟨k, hkn, hf, hG, hF, hT⟩
                · rw [hf]
                  clear hf
                  cases q
                  case false =>
                    go_wp2_with fail
                    go_roundw
                    case rel => exact ⟨g + 1, by go_num, by omega, by omega, HWn⟩
                    case measure => simp [intOf]; omega
                  case true =>
                    go_wp2_with fail
                    go_roundw
                    case rel => exact ⟨g + 1, by go_num, by omega, by omega, HWn⟩
                    case measure => simp [intOf]; omega
                · rw [hf]
                  have hq : q = false := by
                    cases q
                    · rfl
                    · rcases HQ.out rfl k hkn with z | z
                      · exact absurd hG z
                      · exact absurd z hT
                  subst hq
                  have hki : (k : Int) < (na : Int) := by omega
                  have hk0i : (0 : Int) ≤ (k : Int) := by omega
                  obtain ⟨qb, qo, rfl, qz, q0, q1, q2, q3, q4⟩ := HEi.out k hkn
                  rw [hG] at q0
                  rw [hF] at q3
                  have hgg : ((g : Int) != (g : Int)) = false := by simp
                  have a1 := H9i.out.2.2 1 _ rfl
                  have az := H9i.out.1
                  clear q1 q2 q4 hf hG hF hT
                  go_wp2_with fail
                  go_roundw
                  case rel => exact ⟨g + 1, by go_num, by omega, by omega, HWn⟩
                  case measure => simp [intOf]; omega
          case neg =>
            have hgn : ¬ (g : Int) ≤ 9 := by omega
            have BS : Below w.heap.size w wg := HSr.out.trans (HW.out.mono HSr.out.size)
            have sBS := BS.size
            go_wp2
            go_ret
            exact ⟨rfl, (by repeat (first | with_reducible exact Below.refl _ _ | with_reducible exact BS | with_reducible refine Below.setCell ?_ (by first | omega | (simp; done) | (simp; omega)) _ | with_reducible refine bDrewN ?_ _ | with_reducible refine Below.drew ?_ | with_reducible refine Below.alloc ?_ (by first | omega | (simp; done) | (simp; omega)) _))⟩
theorem fnBoards_walk (w : World) (s : Option Addr) (n c : Nat) (hn : n ≤ 9223372036854775807) (R : Bytes w s n) :
    Calls Try.prog 3 #[.slice s n c] w fun e w' => e = .returned (.bool true) ∧ Below w.heap.size w w' := by
  by_cases h : n ≤ 1048576
  · exact boards_near w s n c (by omega) (R.code h)
  · exact boards_far w s n c (by omega)

set_option maxRecDepth 100000 in
theorem fnBoards_lifted (os : Os) (started : os.Started) (H : Type) (enc : TypeId × Value → H) :
    ReturnsInHanded {} Try.checked os 3 .any (Rows.fnBoardsSpec.pre6 enc Try.prog Try.f3 Rows.fnBoardsRow.domain false) (Rows.fnBoardsSpec.post enc Try.prog Try.f3 false true false false) := by
  refine returnsInHanded_of_change (C := Try.checked) own started (by kernel_rfl) Try.func3
    (ChangeSpec.witness6 (enc := enc) (C := Try.checked) false ⟨#[], #[.slice none 0 0], []⟩ 8 (by kernel_rfl) (by kernel_rfl) (by kernel_rfl) (by kernel_rfl)) ?_
  intro W base args ds gs before hval0 hW hcnd _
  have hval : ∀ (j : Nat) t v, Try.f3.params[j]? = some t → args[j]? = some v → Value.okWide Try.prog W .any base t v := hval0
  have hW' := hW
  obtain ⟨p, q, hA0, hV, rfl, hfz, hnd⟩ := hW
  have hA : DataW.TrodAll enc Try.prog W 0 (fun _ => true) true Try.f3.params.toList args.toList ds p := hA0
  rw [Try.params3] at hA hval
  obtain ⟨v0, vs0, d0, ds0, p0, q0, hargs, rfl, rfl, h0, r0⟩ := trodAll_cons hA
  obtain ⟨rfl, rfl, rfl⟩ := trodAll_nil r0
  obtain rfl : args = #[v0] := by cases args; simp_all
  obtain ⟨rfl, rfl⟩ := trodVars_none hV
  have k0 := h0
  have lt0 : ∀ x ∈ p0, x.block < W.heap.size := by obtain ⟨m, hm⟩ := k0; exact DataW.trod_lt m _ _ _ hm
  obtain ⟨s0, n0, c0, rfl, m0, R0⟩ := open_code Try.underlying22 Try.underlying5 (by kernel_rfl) (hval 0 22 v0 rfl rfl) h0
  clear hA0 hval0
  refine (fnBoards_walk W s0 n0 c0 m0 R0).mono fun e W' ⟨he, bel⟩ => ?_
  subst he
  exact ⟨_, rfl, _, _, _, [], _, [], hW', trodAll_mk1 (shut_bool Try.underlying4 _), (trodAll_cons_mk (Below.trod laidOut (by kernel_rfl) (of_decide_eq_true (by kernel_rfl)) k0 bel lt0) trodAll_mk0), rfl, bel.frame _, fun h => by cases h⟩

theorem fnBoards_holds : Rows.FnBoardsSaid :=
  OpenClaim.holds_of_wide 3 Try.f3 rfl rfl rfl rfl rfl rfl rfl ⟨rfl, rfl, rfl, rfl, rfl⟩ rfl rfl rfl rfl rfl (by kernel_rfl) Try.func3 (by kernel_rfl)
    (of_decide_eq_true (by kernel_rfl)) (by unfold Func.isWrapper; first | (rw [if_pos (by decide +kernel)]; kernel_rfl) | (rw [if_neg (by decide +kernel)]; exact ⟨rfl, rfl⟩))
    (fun os started H enc _ => fnBoards_lifted os started H enc)
#print axioms fnBoards_holds
end Go.Proofs.Ytlbbdifmjdpfiaa
