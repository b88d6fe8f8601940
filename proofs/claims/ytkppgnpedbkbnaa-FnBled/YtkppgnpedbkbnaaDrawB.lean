/-
What is proved: a flow and a list of shares that are drawn from a code: any int64, any list of at most 101.
-/
import Derived.Test.YtkppgnpedbkbnaaRdO
import Derived.Test.YtkppgnpedbkbnaaRdC
import Derived.Test.YtkppgnpedbkbnaaOwnL
import Derived.Test.YtkppgnpedbkbnaaI64
namespace Go.Proofs.Ytkppgnpedbkbnaa
set_option maxRecDepth 40000
open Go.RowKit
set_option linter.unusedVariables false
set_option linter.unusedSimpArgs false

set_option maxHeartbeats 1000000 in
theorem size_any {r : Nat} {s : Option Addr} {n c p : Nat} {w : World} (per most : Int) (h0 : 1 ≤ per) (h1 : per ≤ 1000) (h2 : 1 ≤ most) (h3 : most ≤ 1000) (h : Hid (Rd w r s n c p)) :
    Calls Try.prog 37 #[.pointer (some ⟨r, 0, none⟩), .int .i64 per, .int .i64 most] w fun e w' => ∃ k p', e = .returned (.int .i64 k) ∧ 1 ≤ k ∧ k ≤ most + 1 ∧ Rd w' r s n c p' ∧ Beside r w w' := by
  obtain ⟨z1, z2, z3, z4, z5, z6, -⟩ := h.out
  have n1 : (n : Int) ≤ 1048576 := by omega
  have d0 : 0 ≤ (n : Int) / per := Int.ediv_nonneg (by omega) (by omega)
  have d1 : (n : Int) / per ≤ (n : Int) := Int.ediv_le_self per (by omega)
  have BL : Hid (∀ m, 1 ≤ m → m ≤ most → Calls Try.prog 40 #[.pointer (some ⟨r, 0, none⟩), .int .i64 m] w fun e w' => ∃ k p', e = .returned (.int .i64 k) ∧ 0 ≤ k ∧ k ≤ most ∧ Rd w' r s n c p' ∧ Beside r w w') := fun m m0 m1 => (below_any m h).mono fun e w' ⟨k, p', e1, k0, k1, k2, R, b⟩ => ⟨k, p', e1, k0, by omega, R, b⟩
  have pz : ¬ per = 0 := by omega
  by_cases q : 1 + (n : Int) / per ≤ most
  · go_enter Try.func37, Try.ntmps37
    go_wp2_with fail
    refine (BL.out _ (by omega) (by omega)).mono ?_
    rintro e w1 ⟨k, p1, rfl, k0, k1, R1, b1⟩
    go_wp2
    go_ret
    exact ⟨1 + k, p1, rfl, by omega, by omega, R1, b1⟩
  · go_enter Try.func37, Try.ntmps37
    go_wp2_with fail
    refine (BL.out _ (by omega) (by omega)).mono ?_
    rintro e w1 ⟨k, p1, rfl, k0, k1, R1, b1⟩
    go_wp2
    go_ret
    exact ⟨1 + k, p1, rfl, by omega, by omega, R1, b1⟩

theorem Beside.on {r : Nat} {w w1 w2 : World} (h : Beside r w w1) (b : Below w.heap.size w1 w2) : Beside r w w2 := by
  obtain ⟨h1, h2, h3, h4, h5⟩ := h
  exact ⟨b.os.trans h1, b.tape.trans h2, b.output.trans h3, Nat.le_trans h4 b.size, fun k hk hn => (b.block k hk).trans (h5 k hk hn)⟩
/-- A list of int64s on its way of being drawn by the reader in block r. -/
def Drawn (r : Nat) (s : Option Addr) (n c : Nat) (w wr : World) (v : Value) (l : List Int) : Prop := wr.ownsRow w.heap.size 2 1 v l.length (cellsOf l) ∧ Beside r w wr ∧ ∃ p, Rd wr r s n c p
theorem drawn_read {r : Nat} {w wr w2 : World} {v : Value} {l : List Int} (hr : r < w.heap.size) (h : wr.ownsRow w.heap.size 2 1 v l.length (cellsOf l)) (b : Beside r wr w2) : w2.ownsRow w.heap.size 2 1 v l.length (cellsOf l) :=
  own_same h fun g hg => b.2.2.2.2 g (h.lt g hg).2 (by have := (h.lt g hg).1; omega)
theorem RowI.beside {r : Nat} {W W' : World} {t : Option Addr} {m : Nat} {V : Nat → Int} (h : RowI W t m V) (b : Beside r W W') (hn : ∀ g o, t = some ⟨g, o, none⟩ → g ≠ r) : RowI W' t m V := fun j hj => by
  obtain ⟨g, o, e, hl, hc⟩ := h j hj
  exact ⟨g, o, e, Nat.lt_of_lt_of_le hl b.2.2.2.1, (b.cell (p := ⟨g, o + j, none⟩) hl (hn g o e)).trans hc⟩
theorem drawn_on {r : Nat} {s : Option Addr} {n c p : Nat} {w wr w2 w3 : World} {v v' : Value} {l : List Int} {x : Int} (hr : r < w.heap.size) (h : wr.ownsRow w.heap.size 2 1 v l.length (cellsOf l)) (hB : Beside r w wr) (b : Beside r wr w2) (R : Rd w2 r s n c p) (hown : w3.ownsRow w.heap.size 2 1 v' (l.length + 1) (cellsOf l ++ [.int .i64 x])) (hg : w2.grownBy w3 v.ownBlock) : Drawn r s n c w w3 v' (l ++ [x]) := by
  have z := hB.2.2.2.1
  have z2 := b.2.2.2.1
  have ob := own_block (drawn_read hr h b)
  have g1 : Below w.heap.size w2 w3 := grown_below hg (by omega) ob
  exact ⟨by rw [cellsOf_snoc]; simpa using hown, (hB.trans b).on g1, p, R.below' (g1.mono (by omega))⟩

set_option maxRecDepth 20000 in
set_option maxHeartbeats 4000000 in
theorem drawBleed_any {s : Option Addr} {n c : Nat} {w : World} (h : Hid (Code8 w s n)) :
    Calls Try.prog 14 #[.slice s n c] w fun e w' => ∃ F m s' c' V, e = .returned (.tuple #[.int .i64 F, .slice s' m c']) ∧ (Lit.int .i64 F).wf = true ∧ m ≤ 1048576 ∧ RowI w' s' m V ∧ Below w.heap.size w w' := by
  go_enter Try.func14, Try.ntmps14
  go_wp2_with fail
  refine (open_any h).mono ?_
  rintro e w1 ⟨rfl, R1, b1⟩
  have z1 := R1.1
  have HB1 : Hid (Below w.heap.size w w1) := b1
  clear b1
  go_wp2_with fail
  refine (size_any 4 20 (by omega) (by omega) (by omega) (by omega) (Rd.below R1 (below0 w1 _))).mono ?_
  rintro e w2 ⟨N, p2, rfl, N0, N1, R2, b2⟩
  have LIT : w2.ownsRow w1.heap.size 2 1 (.slice (some ⟨w1.heap.size, 0, none⟩) 0 0) ([] : List Int).length (cellsOf []) := own_same (madeL_lit (b0 := 0) (base := w1.heap.size) w1 (Nat.le_refl _)).1 fun g hg => by
    have e : w1.heap.size = g := by simpa [Value.ownBlock] using hg
    subst e
    exact b2.2.2.2.2 _ (by simp) (by omega)
  have D2 : Hid (Drawn w.heap.size s n c w1 w2 (.slice (some ⟨w1.heap.size, 0, none⟩) 0 0) []) := ⟨LIT, (Beside.of (below0 w1 _)).trans b2, p2, R2⟩
  clear LIT R1 R2 b2
  go_wp2_with fail
  go_loopw [5, 6] (fun v i wr => ∃ (k : Nat) (l : List Int), (k : Int) ≤ N ∧ i = .int .i64 (N - k) ∧ Hid (l.length = k) ∧ Drawn w.heap.size s n c w1 wr v l) (fun _ i _ => (intOf i).toNat)
  case atStart => exact ⟨0, [], by omega, by simp, rfl, D2.out⟩
  case round =>
    obtain ⟨k, l, hk, rfl, hl, hD⟩ := hrel
    have HD : Hid (Drawn w.heap.size s n c w1 wr u5 l) := hD
    obtain ⟨hown, hB, p, R⟩ := hD
    have HO : Hid (wr.ownsRow w1.heap.size 2 1 u5 l.length (cellsOf l)) := hown
    have HBs : Hid (Beside w.heap.size w1 wr) := hB
    have zB := hB.2.2.2.1
    have HRd : Hid (Rd wr w.heap.size s n c p) := R
    clear hown hB R
    by_cases hlt : (k : Int) < N
    · have q0 : 0 < N - (k : Int) := by omega
      go_wp2_with fail
      refine (near_any 0 1000 (by omega) (by omega) (by omega) HRd.out).mono ?_
      rintro e w3 ⟨x, p3, rfl, x0, x1, R3, b3⟩
      have O3 : Hid (w3.ownsRow w1.heap.size 2 1 u5 l.length (cellsOf l)) := drawn_read z1 HO.out b3
      have H3 : Hid (Beside w.heap.size wr w3 ∧ Rd w3 w.heap.size s n c p3) := ⟨b3, R3⟩
      have z3 := b3.2.2.2.1
      clear R3 b3
      go_wp2_with (at_builtin; refine list_i64h w1.heap.size u5 l.length (cellsOf l) (.tmp 16) (.tmp 19) (by rfl) (by rfl) (by rfl) (by rfl) O3.out (by rw [hl.out]; omega) (by omega) ?_; intro g' cap' w4 hown4 hgrow4 hlt4 hat4)
      go_roundw
      case rel => exact ⟨k + 1, l ++ [x], by omega, by congr 1; omega, (by show _ = _; simp [hl.out]), drawn_on z1 HO.out HBs.out H3.out.1 H3.out.2 hown4 hgrow4⟩
      case measure => simp [intOf]; omega
    · obtain rfl : (k : Int) = N := by omega
      have RowEnd : ∃ g cap, u5 = .slice (some ⟨g, 0, none⟩) l.length cap ∧ w1.heap.size ≤ g ∧ g < wr.heap.size := HO.out.form (by rw [hl.out]; omega)
      obtain ⟨g, cap, hu5, g0, g1⟩ := RowEnd
      have CellR : Hid (∀ j, j < l.length → wr.cell? ⟨g, j, none⟩ = some (.int .i64 (nthI l j)) ∧ wr.frozen? ⟨g, j, none⟩ = false) := fun j hj => by
        have ho := HO.out
        rw [hu5] at ho
        refine ⟨?_, ho.frozenAt j⟩
        rw [ho.cellAt j (by omega)]
        simp [cellsOf, nthI, hj]
      rw [hu5]
      have k0 : (0 : Int) < (l.length : Int) := by rw [hl.out]; omega
      have lm : l.length ≤ 1048576 := by rw [hl.out]; omega
      clear hu5 HO
      have BW : Hid (Below w.heap.size w wr) := HB1.out.trans (HBs.out.below (Nat.le_refl _) (by omega))
      clear HBs HB1 HD D2
      have ROWr : Hid (RowI wr (some ⟨g, 0, none⟩) l.length (nthI l)) := fun j hj => ⟨g, 0, rfl, g1, by rw [Nat.zero_add]; exact (CellR.out j hj).1⟩
      go_wp2_with fail
      refine (once_any 12 (by omega) (by omega) HRd.out).mono ?_
      rintro e w5 ⟨b5, p5, rfl, R5, bs5⟩
      have HR5 : Hid (Rd w5 w.heap.size s n c p5) := R5
      have ROW5 : Hid (RowI w5 (some ⟨g, 0, none⟩) l.length (nthI l)) := ROWr.out.beside bs5 (by intro g o e; cases e; omega)
      have BL5 : Hid (Below w.heap.size w w5) := BW.out.trans (bs5.below (Nat.le_refl _) BW.out.size)
      have C5 : Hid (∀ j, j < l.length → w5.cell? ⟨g, j, none⟩ = some (.int .i64 (nthI l j)) ∧ w5.frozen? ⟨g, j, none⟩ = false) := fun j hj => ⟨(bs5.cell (p := ⟨g, j, none⟩) g1 (by simp only; omega)).trans (CellR.out j hj).1, (bs5.frozen (p := ⟨g, j, none⟩) g1 (by simp only; omega)).trans (CellR.out j hj).2⟩
      have g5 : g < w5.heap.size := Nat.lt_of_lt_of_le g1 bs5.2.2.2.1
      clear R5 bs5 ROWr CellR HRd BW
      cases b5
      · go_wp2_with fail
        refine (once_any 30 (by omega) (by omega) (HR5.out)).mono ?_
        rintro e wd ⟨bd, pd, rfl, Rd', bd'⟩
        have HRd2 : Hid (Rd wd w.heap.size s n c pd) := Rd'
        have ROWd : Hid (RowI wd (some ⟨g, 0, none⟩) l.length (nthI l)) := (ROW5.out).beside bd' (by intro g o e; cases e; omega)
        have BLd : Hid (Below w.heap.size w wd) := (BL5.out).trans (bd'.below (Nat.le_refl _) (BL5.out).size)
        clear Rd' bd'
        cases bd
        · have zr : wd.heap.size ≠ w.heap.size := by have := (HRd2.out).1; omega
          go_wp2_with fail
          refine (below_any 3 (Rd.below (HRd2.out) (below0 wd _))).mono ?_
          rintro e wb ⟨jb, pb, rfl, j0, j1, j2, Rb, bb⟩
          have zs : wd.heap.size < wb.heap.size := by have := bb.2.2.2.1; simp at this; omega
          have hq : ∃ jn : Nat, ∃ v : Int, jb = jn ∧ jn < 3 ∧ wb.cell? ⟨wd.heap.size, jn, none⟩ = some (.int .i64 v) ∧ 0 ≤ v ∧ v ≤ 1000000000 := by
            have hc : ∀ i, wb.cell? ⟨wd.heap.size, i, none⟩ = (wd.alloc (.cells #[.int .i64 100, .int .i64 100000, .int .i64 1000000000] 2)).cell? ⟨wd.heap.size, i, none⟩ := fun i => bb.cell (p := ⟨wd.heap.size, i, none⟩) (by simp) zr
            have jj : jb = 0 ∨ jb = 1 ∨ jb = 2 := by omega
            rcases jj with rfl | rfl | rfl
            · exact ⟨0, 100, rfl, by omega, (hc 0).trans (by simp [go_sem]), by omega, by omega⟩
            · exact ⟨1, 100000, rfl, by omega, (hc 1).trans (by simp [go_sem]), by omega, by omega⟩
            · exact ⟨2, 1000000000, rfl, by omega, (hc 2).trans (by simp [go_sem]), by omega, by omega⟩
          obtain ⟨jn, v, rfl, jl, hq, v0, v1⟩ := hq
          have j3 : (jn : Int) < 3 := by omega
          have HRb : Hid (Rd wb w.heap.size s n c pb) := Rb
          have ROWb : Hid (RowI wb (some ⟨g, 0, none⟩) l.length (nthI l)) := ((ROWd.out).below (below0 wd _)).beside bb (by intro g o e; cases e; omega)
          have BLb : Hid (Below w.heap.size w wb) := ((BLd.out).alloc (BLd.out).size _).trans (bb.below (Nat.le_refl _) (by have := (BLd.out).size; simp; omega))
          clear j0 j1 j2 Rb bb
          go_wp2_with fail
          refine (off_any 0 v (by omega) (by omega) (by omega) HRb.out).mono ?_
          rintro e wc ⟨F, pc, rfl, hF, Rc, bc⟩
          have ROWc : Hid (RowI wc (some ⟨g, 0, none⟩) l.length (nthI l)) := ROWb.out.beside bc (by intro g o e; cases e; omega)
          have BLc : Below w.heap.size w wc := BLb.out.trans (bc.below (Nat.le_refl _) BLb.out.size)
          clear Rc bc hq
          go_wp2
          exact bodyPost_ret (v := .tuple #[.int .i64 F, .slice (some ⟨g, 0, none⟩) l.length cap]) (by simp [results, Try.results14, go_sem]) rfl ⟨F, l.length, _, _, (nthI l), rfl, hF, by omega, ROWc.out, (by repeat (first | with_reducible exact Below.refl _ _ | with_reducible exact BLc | with_reducible refine Below.setCell ?_ (by first | omega | (simp; done) | (simp; omega)) _ | with_reducible refine bDrewN ?_ _ | with_reducible refine Below.drew ?_ | with_reducible refine Below.alloc ?_ (by first | omega | (simp; done) | (simp; omega)) _))⟩
        · clear ROWd
          go_wp2_with fail
          refine (below_any 2 HRd2.out).mono ?_
          rintro e we ⟨je, pe, rfl, j0, j1, j2, Re, be⟩
          obtain ⟨M, hM⟩ : ∃ M : Nat, 100 + je = (M : Int) ∧ M ≤ 200 := ⟨(100 + je).toNat, by omega⟩
          have hmk := make_i64 M (by omega)
          have hM1 := hM.1
          have mw : IntKind.i64.wrap (100 + je) = (M : Int) := by rw [IntKind.wrap_i64]; omega
          have RT := rowTo_start we M (fun _ => 0) 2
          have BLe : Hid (Below w.heap.size w we) := BLd.out.trans (be.below (Nat.le_refl _) BLd.out.size)
          have HRe : Hid (Rd we w.heap.size s n c pe) := Re
          have ME : Hid (RowI (we.alloc (.cells (madeCells #[.int .i64 0] M) 2)) (some ⟨we.heap.size, 0, none⟩) M (fun _ => 0)) := fun j hj => by
            obtain ⟨-, hz, -, hc⟩ := RT
            exact ⟨_, 0, rfl, hz, by rw [Nat.zero_add, hc j hj]; simp⟩
          have zze : w.heap.size < we.heap.size := Re.1
          have ML : M ≤ 200 := hM.2
          clear RT Re be hM
          go_wp2_with fail
          obtain ⟨wf, hwf⟩ : ∃ wf, wf = we.alloc (.cells (madeCells #[.int .i64 0] M) 2) := ⟨_, rfl⟩
          have hzf : we.heap.size + 1 = wf.heap.size := by rw [hwf]; simp
          have RdF : Hid (Rd wf w.heap.size s n c pe) := by rw [hwf]; exact Rd.below HRe.out (below0 we _)
          have BLf : Hid (Below w.heap.size w wf) := by rw [hwf]; exact BLe.out.alloc BLe.out.size _
          have MF : Hid (RowI wf (some ⟨we.heap.size, 0, none⟩) M (fun _ => 0)) := by rw [hwf]; exact ME.out
          rw [← hwf, hzf]
          have zzf : we.heap.size < wf.heap.size := by omega
          clear hwf hzf ME hmk mw hM1
          have zr : wf.heap.size ≠ w.heap.size := by have := (RdF.out).1; omega
          refine (below_any 3 (Rd.below (RdF.out) (below0 wf _))).mono ?_
          rintro e wb ⟨jb, pb, rfl, j0, j1, j2, Rb, bb⟩
          have zs : wf.heap.size < wb.heap.size := by have := bb.2.2.2.1; simp at this; omega
          have hq : ∃ jn : Nat, ∃ v : Int, jb = jn ∧ jn < 3 ∧ wb.cell? ⟨wf.heap.size, jn, none⟩ = some (.int .i64 v) ∧ 0 ≤ v ∧ v ≤ 1000000000 := by
            have hc : ∀ i, wb.cell? ⟨wf.heap.size, i, none⟩ = (wf.alloc (.cells #[.int .i64 100, .int .i64 100000, .int .i64 1000000000] 2)).cell? ⟨wf.heap.size, i, none⟩ := fun i => bb.cell (p := ⟨wf.heap.size, i, none⟩) (by simp) zr
            have jj : jb = 0 ∨ jb = 1 ∨ jb = 2 := by omega
            rcases jj with rfl | rfl | rfl
            · exact ⟨0, 100, rfl, by omega, (hc 0).trans (by simp [go_sem]), by omega, by omega⟩
            · exact ⟨1, 100000, rfl, by omega, (hc 1).trans (by simp [go_sem]), by omega, by omega⟩
            · exact ⟨2, 1000000000, rfl, by omega, (hc 2).trans (by simp [go_sem]), by omega, by omega⟩
          obtain ⟨jn, v, rfl, jl, hq, v0, v1⟩ := hq
          have j3 : (jn : Int) < 3 := by omega
          have HRb : Hid (Rd wb w.heap.size s n c pb) := Rb
          have ROWb : Hid (RowI wb (some ⟨we.heap.size, 0, none⟩) M (fun _ => 0)) := ((MF.out).below (below0 wf _)).beside bb (by intro g o e; cases e; omega)
          have BLb : Hid (Below w.heap.size w wb) := ((BLf.out).alloc (BLf.out).size _).trans (bb.below (Nat.le_refl _) (by have := (BLf.out).size; simp; omega))
          clear j0 j1 j2 Rb bb
          go_wp2_with fail
          refine (off_any 0 v (by omega) (by omega) (by omega) HRb.out).mono ?_
          rintro e wc ⟨F, pc, rfl, hF, Rc, bc⟩
          have ROWc : Hid (RowI wc (some ⟨we.heap.size, 0, none⟩) M (fun _ => 0)) := ROWb.out.beside bc (by intro g o e; cases e; omega)
          have BLc : Below w.heap.size w wc := BLb.out.trans (bc.below (Nat.le_refl _) BLb.out.size)
          clear Rc bc hq
          go_wp2
          exact bodyPost_ret (v := .tuple #[.int .i64 F, .slice (some ⟨we.heap.size, 0, none⟩) M M]) (by simp [results, Try.results14, go_sem]) rfl ⟨F, M, _, _, (fun _ => 0), rfl, hF, by omega, ROWc.out, (by repeat (first | with_reducible exact Below.refl _ _ | with_reducible exact BLc | with_reducible refine Below.setCell ?_ (by first | omega | (simp; done) | (simp; omega)) _ | with_reducible refine bDrewN ?_ _ | with_reducible refine Below.drew ?_ | with_reducible refine Below.alloc ?_ (by first | omega | (simp; done) | (simp; omega)) _))⟩
      · go_wp2_with fail
        refine (off_any 0 1000 (by omega) (by omega) (by omega) HR5.out).mono ?_
        rintro e w6 ⟨x, p6, rfl, hx, R6, bs6⟩
        have C6 : ∀ j, j < l.length → w6.cell? ⟨g, j, none⟩ = some (.int .i64 (nthI l j)) ∧ w6.frozen? ⟨g, j, none⟩ = false := fun j hj => ⟨(bs6.cell (p := ⟨g, j, none⟩) g5 (by simp only; omega)).trans (C5.out j hj).1, (bs6.frozen (p := ⟨g, j, none⟩) g5 (by simp only; omega)).trans (C5.out j hj).2⟩
        obtain ⟨c60, f60⟩ := C6 0 (by omega)
        have g6 : g < w6.heap.size := Nat.lt_of_lt_of_le g5 bs6.2.2.2.1
        have BL6 : Hid (Below w.heap.size w w6) := BL5.out.trans (bs6.below (Nat.le_refl _) BL5.out.size)
        have ROW7 : Hid (RowI (w6.setCell ⟨g, 0, none⟩ (.int .i64 x)) (some ⟨g, 0, none⟩) l.length (fun j => if j = 0 then x else nthI l j)) := fun j hj => by
          refine ⟨g, 0, rfl, by simpa using g6, ?_⟩
          rw [Nat.zero_add]
          obtain ⟨cj, _⟩ := C6 j hj
          by_cases z : j = 0
          · subst z; simp [go_sem, c60]
          · simp [go_sem, cj, z]
        have BL7 : Hid (Below w.heap.size w (w6.setCell ⟨g, 0, none⟩ (.int .i64 x))) := BL6.out.setCell (by simp only; omega) _
        have RD7 : Hid (Rd (w6.setCell ⟨g, 0, none⟩ (.int .i64 x)) w.heap.size s n c p6) := R6.below' ((Below.refl _ _).setCell (by simp only; omega) _)
        clear C6 C5 R6 bs6 ROW5 BL5 HR5
        go_wp2_with fail
        obtain ⟨w7, hw7⟩ : ∃ w7, w7 = w6.setCell ⟨g, 0, none⟩ (.int .i64 x) := ⟨_, rfl⟩
        rw [← hw7] at ROW7 BL7 RD7 ⊢
        clear hw7 c60 f60
        refine (once_any 30 (by omega) (by omega) (RD7.out)).mono ?_
        rintro e wd ⟨bd, pd, rfl, Rd', bd'⟩
        have HRd2 : Hid (Rd wd w.heap.size s n c pd) := Rd'
        have ROWd : Hid (RowI wd (some ⟨g, 0, none⟩) l.length (fun j => if j = 0 then x else nthI l j)) := (ROW7.out).beside bd' (by intro g o e; cases e; omega)
        have BLd : Hid (Below w.heap.size w wd) := (BL7.out).trans (bd'.below (Nat.le_refl _) (BL7.out).size)
        clear Rd' bd'
        cases bd
        · have zr : wd.heap.size ≠ w.heap.size := by have := (HRd2.out).1; omega
          go_wp2_with fail
          refine (below_any 3 (Rd.below (HRd2.out) (below0 wd _))).mono ?_
          rintro e wb ⟨jb, pb, rfl, j0, j1, j2, Rb, bb⟩
          have zs : wd.heap.size < wb.heap.size := by have := bb.2.2.2.1; simp at this; omega
          have hq : ∃ jn : Nat, ∃ v : Int, jb = jn ∧ jn < 3 ∧ wb.cell? ⟨wd.heap.size, jn, none⟩ = some (.int .i64 v) ∧ 0 ≤ v ∧ v ≤ 1000000000 := by
            have hc : ∀ i, wb.cell? ⟨wd.heap.size, i, none⟩ = (wd.alloc (.cells #[.int .i64 100, .int .i64 100000, .int .i64 1000000000] 2)).cell? ⟨wd.heap.size, i, none⟩ := fun i => bb.cell (p := ⟨wd.heap.size, i, none⟩) (by simp) zr
            have jj : jb = 0 ∨ jb = 1 ∨ jb = 2 := by omega
            rcases jj with rfl | rfl | rfl
            · exact ⟨0, 100, rfl, by omega, (hc 0).trans (by simp [go_sem]), by omega, by omega⟩
            · exact ⟨1, 100000, rfl, by omega, (hc 1).trans (by simp [go_sem]), by omega, by omega⟩
            · exact ⟨2, 1000000000, rfl, by omega, (hc 2).trans (by simp [go_sem]), by omega, by omega⟩
          obtain ⟨jn, v, rfl, jl, hq, v0, v1⟩ := hq
          have j3 : (jn : Int) < 3 := by omega
          have HRb : Hid (Rd wb w.heap.size s n c pb) := Rb
          have ROWb : Hid (RowI wb (some ⟨g, 0, none⟩) l.length (fun j => if j = 0 then x else nthI l j)) := ((ROWd.out).below (below0 wd _)).beside bb (by intro g o e; cases e; omega)
          have BLb : Hid (Below w.heap.size w wb) := ((BLd.out).alloc (BLd.out).size _).trans (bb.below (Nat.le_refl _) (by have := (BLd.out).size; simp; omega))
          clear j0 j1 j2 Rb bb
          go_wp2_with fail
          refine (off_any 0 v (by omega) (by omega) (by omega) HRb.out).mono ?_
          rintro e wc ⟨F, pc, rfl, hF, Rc, bc⟩
          have ROWc : Hid (RowI wc (some ⟨g, 0, none⟩) l.length (fun j => if j = 0 then x else nthI l j)) := ROWb.out.beside bc (by intro g o e; cases e; omega)
          have BLc : Below w.heap.size w wc := BLb.out.trans (bc.below (Nat.le_refl _) BLb.out.size)
          clear Rc bc hq
          go_wp2
          exact bodyPost_ret (v := .tuple #[.int .i64 F, .slice (some ⟨g, 0, none⟩) l.length cap]) (by simp [results, Try.results14, go_sem]) rfl ⟨F, l.length, _, _, (fun j => if j = 0 then x else nthI l j), rfl, hF, by omega, ROWc.out, (by repeat (first | with_reducible exact Below.refl _ _ | with_reducible exact BLc | with_reducible refine Below.setCell ?_ (by first | omega | (simp; done) | (simp; omega)) _ | with_reducible refine bDrewN ?_ _ | with_reducible refine Below.drew ?_ | with_reducible refine Below.alloc ?_ (by first | omega | (simp; done) | (simp; omega)) _))⟩
        · clear ROWd
          go_wp2_with fail
          refine (below_any 2 HRd2.out).mono ?_
          rintro e we ⟨je, pe, rfl, j0, j1, j2, Re, be⟩
          obtain ⟨M, hM⟩ : ∃ M : Nat, 100 + je = (M : Int) ∧ M ≤ 200 := ⟨(100 + je).toNat, by omega⟩
          have hmk := make_i64 M (by omega)
          have hM1 := hM.1
          have mw : IntKind.i64.wrap (100 + je) = (M : Int) := by rw [IntKind.wrap_i64]; omega
          have RT := rowTo_start we M (fun _ => 0) 2
          have BLe : Hid (Below w.heap.size w we) := BLd.out.trans (be.below (Nat.le_refl _) BLd.out.size)
          have HRe : Hid (Rd we w.heap.size s n c pe) := Re
          have ME : Hid (RowI (we.alloc (.cells (madeCells #[.int .i64 0] M) 2)) (some ⟨we.heap.size, 0, none⟩) M (fun _ => 0)) := fun j hj => by
            obtain ⟨-, hz, -, hc⟩ := RT
            exact ⟨_, 0, rfl, hz, by rw [Nat.zero_add, hc j hj]; simp⟩
          have zze : w.heap.size < we.heap.size := Re.1
          have ML : M ≤ 200 := hM.2
          clear RT Re be hM
          go_wp2_with fail
          obtain ⟨wf, hwf⟩ : ∃ wf, wf = we.alloc (.cells (madeCells #[.int .i64 0] M) 2) := ⟨_, rfl⟩
          have hzf : we.heap.size + 1 = wf.heap.size := by rw [hwf]; simp
          have RdF : Hid (Rd wf w.heap.size s n c pe) := by rw [hwf]; exact Rd.below HRe.out (below0 we _)
          have BLf : Hid (Below w.heap.size w wf) := by rw [hwf]; exact BLe.out.alloc BLe.out.size _
          have MF : Hid (RowI wf (some ⟨we.heap.size, 0, none⟩) M (fun _ => 0)) := by rw [hwf]; exact ME.out
          rw [← hwf, hzf]
          have zzf : we.heap.size < wf.heap.size := by omega
          clear hwf hzf ME hmk mw hM1
          have zr : wf.heap.size ≠ w.heap.size := by have := (RdF.out).1; omega
          refine (below_any 3 (Rd.below (RdF.out) (below0 wf _))).mono ?_
          rintro e wb ⟨jb, pb, rfl, j0, j1, j2, Rb, bb⟩
          have zs : wf.heap.size < wb.heap.size := by have := bb.2.2.2.1; simp at this; omega
          have hq : ∃ jn : Nat, ∃ v : Int, jb = jn ∧ jn < 3 ∧ wb.cell? ⟨wf.heap.size, jn, none⟩ = some (.int .i64 v) ∧ 0 ≤ v ∧ v ≤ 1000000000 := by
            have hc : ∀ i, wb.cell? ⟨wf.heap.size, i, none⟩ = (wf.alloc (.cells #[.int .i64 100, .int .i64 100000, .int .i64 1000000000] 2)).cell? ⟨wf.heap.size, i, none⟩ := fun i => bb.cell (p := ⟨wf.heap.size, i, none⟩) (by simp) zr
            have jj : jb = 0 ∨ jb = 1 ∨ jb = 2 := by omega
            rcases jj with rfl | rfl | rfl
            · exact ⟨0, 100, rfl, by omega, (hc 0).trans (by simp [go_sem]), by omega, by omega⟩
            · exact ⟨1, 100000, rfl, by omega, (hc 1).trans (by simp [go_sem]), by omega, by omega⟩
            · exact ⟨2, 1000000000, rfl, by omega, (hc 2).trans (by simp [go_sem]), by omega, by omega⟩
          obtain ⟨jn, v, rfl, jl, hq, v0, v1⟩ := hq
          have j3 : (jn : Int) < 3 := by omega
          have HRb : Hid (Rd wb w.heap.size s n c pb) := Rb
          have ROWb : Hid (RowI wb (some ⟨we.heap.size, 0, none⟩) M (fun _ => 0)) := ((MF.out).below (below0 wf _)).beside bb (by intro g o e; cases e; omega)
          have BLb : Hid (Below w.heap.size w wb) := ((BLf.out).alloc (BLf.out).size _).trans (bb.below (Nat.le_refl _) (by have := (BLf.out).size; simp; omega))
          clear j0 j1 j2 Rb bb
          go_wp2_with fail
          refine (off_any 0 v (by omega) (by omega) (by omega) HRb.out).mono ?_
          rintro e wc ⟨F, pc, rfl, hF, Rc, bc⟩
          have ROWc : Hid (RowI wc (some ⟨we.heap.size, 0, none⟩) M (fun _ => 0)) := ROWb.out.beside bc (by intro g o e; cases e; omega)
          have BLc : Below w.heap.size w wc := BLb.out.trans (bc.below (Nat.le_refl _) BLb.out.size)
          clear Rc bc hq
          go_wp2
          exact bodyPost_ret (v := .tuple #[.int .i64 F, .slice (some ⟨we.heap.size, 0, none⟩) M M]) (by simp [results, Try.results14, go_sem]) rfl ⟨F, M, _, _, (fun _ => 0), rfl, hF, by omega, ROWc.out, (by repeat (first | with_reducible exact Below.refl _ _ | with_reducible exact BLc | with_reducible refine Below.setCell ?_ (by first | omega | (simp; done) | (simp; omega)) _ | with_reducible refine bDrewN ?_ _ | with_reducible refine Below.drew ?_ | with_reducible refine Below.alloc ?_ (by first | omega | (simp; done) | (simp; omega)) _))⟩
end Go.Proofs.Ytkppgnpedbkbnaa
