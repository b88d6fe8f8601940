/-
What is proved: a drum and acts that are drawn from a code: any int64s, at most 501 acts.
-/
import Derived.Test.YtjiojofgpdimaaaDmD
import Derived.Test.YtjiojofgpdimaaaSiz
import Derived.Test.YtjiojofgpdimaaaRdC
import Derived.Test.YtjiojofgpdimaaaLsAct
import Derived.Deep.DeepCutAuto
import Derived.RegionTactic
namespace Go.Proofs.Ytjiojofgpdimaaa
set_option maxRecDepth 40000
open Go.ChangeShapes Go.WideShapes Go.ChangeAt Go.RowKit
set_option linter.unusedVariables false
set_option linter.unusedSimpArgs false

def DrunPost (w : World) (e : Ending) (w' : World) : Prop := ∃ (x0 x1 x2 x3 x4 x5 x6 : Int) (t : Option Addr) (m cap : Nat) (U : Nat → Int), e = .returned (.tuple #[.agg #[.int .i64 x0, .int .i64 x1, .int .i64 x2, .int .i64 x3, .int .i64 x4, .int .i64 x5, .int .i64 x6], .slice t m cap]) ∧ 1 ≤ m ∧ m ≤ 501 ∧ m ≤ cap ∧ RowI w' t (m * 3) U ∧ Below w.heap.size w w'
set_option maxRecDepth 20000 in
set_option maxHeartbeats 8000000 in
theorem drawDrumRun_any {s : Option Addr} {n c : Nat} {w : World} (h : Hid (Code8 w s n)) :
    Calls Try.prog 8 #[.slice s n c] w fun e w' => DrunPost w e w' := by
  go_enter Try.func8, Try.ntmps8
  go_wp2_with fail
  refine (open_any (h.out.below (by repeat (first | with_reducible exact Below.refl _ _ | with_reducible refine Below.setCell ?_ (by first | omega | (simp; done) | (simp; omega)) _ | with_reducible refine bDrewN ?_ _ | with_reducible refine Below.drew ?_ | with_reducible refine Below.alloc ?_ (by first | omega | (simp; done) | (simp; omega)) _)))).mono ?_
  rintro e w1 ⟨rfl, R_, b_⟩
  obtain ⟨r, hr⟩ : ∃ r, r = w.heap.size + 1 := ⟨_, rfl⟩
  have HR : Hid (Rd w1 r s n c 0) := by show Rd _ _ _ _ _ _; rw [hr]; simpa using R_
  have HB : Hid (Below w.heap.size w w1) := (show Below w.heap.size w _ from (by repeat (first | with_reducible exact Below.refl _ _ | with_reducible refine Below.setCell ?_ (by first | omega | (simp; done) | (simp; omega)) _ | with_reducible refine bDrewN ?_ _ | with_reducible refine Below.drew ?_ | with_reducible refine Below.alloc ?_ (by first | omega | (simp; done) | (simp; omega)) _))).trans (b_.mono (by first | omega | (simp; done) | (simp; omega)))
  obtain ⟨gq, hgq⟩ : ∃ g, g = w.heap.size := ⟨_, rfl⟩
  have Hq : Hid (Blk w1 gq [.int .i64 0, .int .i64 0, .int .i64 0, .int .i64 0, .int .i64 0, .int .i64 0, .int .i64 0]) := by
    show Blk _ _ _
    have q := ((Blk.new w #[.int .i64 0, .int .i64 0, .int .i64 0, .int .i64 0, .int .i64 0, .int .i64 0, .int .i64 0] 25)).below b_
    rw [hgq]; exact q
  have lgq : w.heap.size ≤ gq := by omega
  have rgq : gq < r := by omega
  have zr : w.heap.size ≤ r := by omega
  try rw [show (w.alloc (.cells #[.int .i64 0, .int .i64 0, .int .i64 0, .int .i64 0, .int .i64 0, .int .i64 0, .int .i64 0] 25)).heap.size = r by rw [hr]; simp]
  try rw [← hr]
  try rw [← hgq]
  clear hgq
  clear R_ b_ h hr
  go_wp2_with fail
  refine (drum_any (HR.out.below (by repeat (first | with_reducible exact Below.refl _ _ | with_reducible refine Below.setCell ?_ (by first | omega | (simp; done) | (simp; omega)) _ | with_reducible refine bDrewN ?_ _ | with_reducible refine Below.drew ?_ | with_reducible refine Below.alloc ?_ (by first | omega | (simp; done) | (simp; omega)) _)))).mono ?_
  rintro e w2 ⟨x0, x1, x2, x3, x4, x5, x6, pd, rfl, R_, b_⟩
  have Hq_z : gq < w1.heap.size := Hq.out.1
  have sz_ : w.heap.size ≤ w1.heap.size := HB.out.size
  have zr_ : r < w1.heap.size := HR.out.1
  have bb : Beside r w1 w2 := (Beside.of (show Below w1.heap.size w1 _ from (by repeat (first | with_reducible exact Below.refl _ _ | with_reducible refine Below.setCell ?_ (by first | omega | (simp; done) | (simp; omega)) _ | with_reducible refine bDrewN ?_ _ | with_reducible refine Below.drew ?_ | with_reducible refine Below.alloc ?_ (by first | omega | (simp; done) | (simp; omega)) _)))).trans b_
  replace Hq : Hid (Blk w2 gq [.int .i64 0, .int .i64 0, .int .i64 0, .int .i64 0, .int .i64 0, .int .i64 0, .int .i64 0]) := Hq.out.beside bb (by omega)
  replace HB : Hid (Below w.heap.size w w2) := HB.out.trans (bb.below (by omega) HB.out.size)
  replace HR : Hid (Rd w2 r s n c pd) := R_
  clear R_
  clear bb b_ sz_ zr_ Hq_z
  go_upto_region 3 with fail
  have Hq_z : gq < w2.heap.size := Hq.out.1
  have sz_ : w.heap.size ≤ w2.heap.size := HB.out.size
  have zr_ : r < w2.heap.size := HR.out.1
  obtain ⟨w3, hw_⟩ : ∃ x_, x_ = (w2.alloc (.cells #[.int .i64 x0, .int .i64 x1, .int .i64 x2, .int .i64 x3, .int .i64 x4, .int .i64 x5, .int .i64 x6] 25)) := ⟨_, rfl⟩
  rw [← hw_]
  replace Hq : Hid (Blk w3 gq [.int .i64 0, .int .i64 0, .int .i64 0, .int .i64 0, .int .i64 0, .int .i64 0, .int .i64 0]) := by show Blk _ _ _; rw [hw_]; exact (Hq.out.below (below0 _ _))
  obtain ⟨gd, hgd⟩ : ∃ g, g = w2.heap.size := ⟨_, rfl⟩
  have Hd : Hid (Blk w3 gd [.int .i64 x0, .int .i64 x1, .int .i64 x2, .int .i64 x3, .int .i64 x4, .int .i64 x5, .int .i64 x6]) := by show Blk _ _ _; rw [hw_, hgd]; have q := (Blk.new w2 #[.int .i64 x0, .int .i64 x1, .int .i64 x2, .int .i64 x3, .int .i64 x4, .int .i64 x5, .int .i64 x6] 25); first | exact q | exact (by simpa using q)
  replace HR : Hid (Rd w3 r s n c pd) := by show Rd _ _ _ _ _ _; rw [hw_]; exact Rd.below' HR.out (show Below (r + 1) w2 _ from (by repeat (first | with_reducible exact Below.refl _ _ | with_reducible refine Below.setCell ?_ (by first | omega | (simp; done) | (simp; omega)) _ | with_reducible refine bDrewN ?_ _ | with_reducible refine Below.drew ?_ | with_reducible refine Below.alloc ?_ (by first | omega | (simp; done) | (simp; omega)) _)))
  replace HB : Hid (Below w.heap.size w w3) := by show Below _ _ _; rw [hw_]; exact HB.out.trans (show Below w.heap.size w2 _ from (by repeat (first | with_reducible exact Below.refl _ _ | with_reducible refine Below.setCell ?_ (by first | omega | (simp; done) | (simp; omega)) _ | with_reducible refine bDrewN ?_ _ | with_reducible refine Below.drew ?_ | with_reducible refine Below.alloc ?_ (by first | omega | (simp; done) | (simp; omega)) _)))
  clear hw_
  have lgd : w.heap.size ≤ gd := by omega
  have rgd : r < gd := by omega
  have dgqgd : gq < gd := by omega
  try rw [← hgd]
  clear hgd
  clear sz_ zr_ Hq_z
  go_upto_region 4 with fail
  have Hq_z : gq < w3.heap.size := Hq.out.1
  have Hd_z : gd < w3.heap.size := Hd.out.1
  have sz_ : w.heap.size ≤ w3.heap.size := HB.out.size
  have zr_ : r < w3.heap.size := HR.out.1
  obtain ⟨w4, hw_⟩ : ∃ x_, x_ = w3.alloc (.cells #[] 32) := ⟨_, rfl⟩
  rw [← hw_]
  have bl_ : Below w3.heap.size w3 w4 := by rw [hw_]; exact below0 _ _
  obtain ⟨ba, hba⟩ : ∃ g, g = w3.heap.size := ⟨_, rfl⟩
  have Ha : Hid (Lst ba 32 3 w4 (.slice (some ⟨ba, 0, none⟩) 0 0) 0 (fun _ => 0)) := by show Lst _ _ _ _ _ _ _; rw [hw_, hba]; exact Lst.lit w3 _ 32 32 3 _ (Nat.le_refl _)
  replace Hq : Hid (Blk w4 gq [.int .i64 0, .int .i64 0, .int .i64 0, .int .i64 0, .int .i64 0, .int .i64 0, .int .i64 0]) := Hq.out.below bl_
  replace Hd : Hid (Blk w4 gd [.int .i64 x0, .int .i64 x1, .int .i64 x2, .int .i64 x3, .int .i64 x4, .int .i64 x5, .int .i64 x6]) := Hd.out.below bl_
  replace HR : Hid (Rd w4 r s n c pd) := HR.out.below bl_
  replace HB : Hid (Below w.heap.size w w4) := HB.out.trans (bl_.mono sz_)
  have lba : w.heap.size ≤ ba := by omega
  have rba : r < ba := by omega
  have dgqba : gq < ba := by omega
  have dgdba : gd < ba := by omega
  have Za : Hid (ba ≤ w4.heap.size) := by show _ ≤ _; have := bl_.size; omega
  try rw [← hba]
  clear hw_ hba bl_ sz_ zr_ Hq_z Hd_z
  go_wp2_with fail
  refine (size_any 6 30 (by omega) (by omega) (by omega) (by omega) (HR.out.below (by repeat (first | with_reducible exact Below.refl _ _ | with_reducible refine Below.setCell ?_ (by first | omega | (simp; done) | (simp; omega)) _ | with_reducible refine bDrewN ?_ _ | with_reducible refine Below.drew ?_ | with_reducible refine Below.alloc ?_ (by first | omega | (simp; done) | (simp; omega)) _)))).mono ?_
  rintro e w5 ⟨N, pN, rfl, N0, N1, R_, b_⟩
  have Hq_z : gq < w4.heap.size := Hq.out.1
  have Hd_z : gd < w4.heap.size := Hd.out.1
  have sz_ : w.heap.size ≤ w4.heap.size := HB.out.size
  have zr_ : r < w4.heap.size := HR.out.1
  have bb : Beside r w4 w5 := (Beside.of (show Below w4.heap.size w4 _ from (by repeat (first | with_reducible exact Below.refl _ _ | with_reducible refine Below.setCell ?_ (by first | omega | (simp; done) | (simp; omega)) _ | with_reducible refine bDrewN ?_ _ | with_reducible refine Below.drew ?_ | with_reducible refine Below.alloc ?_ (by first | omega | (simp; done) | (simp; omega)) _)))).trans b_
  replace Hq : Hid (Blk w5 gq [.int .i64 0, .int .i64 0, .int .i64 0, .int .i64 0, .int .i64 0, .int .i64 0, .int .i64 0]) := Hq.out.beside bb (by omega)
  replace Hd : Hid (Blk w5 gd [.int .i64 x0, .int .i64 x1, .int .i64 x2, .int .i64 x3, .int .i64 x4, .int .i64 x5, .int .i64 x6]) := Hd.out.beside bb (by omega)
  replace Ha : Hid (Lst ba 32 3 w5 (.slice (some ⟨ba, 0, none⟩) 0 0) 0 (fun _ => 0)) := Ha.out.beside bb (by omega)
  replace Za : Hid (ba ≤ w5.heap.size) := Nat.le_trans Za.out bb.2.2.2.1
  replace HB : Hid (Below w.heap.size w w5) := HB.out.trans (bb.below (by omega) HB.out.size)
  replace HR : Hid (Rd w5 r s n c pN) := R_
  clear R_
  clear bb b_ sz_ zr_ Hq_z Hd_z
  go_wp2_with fail
  go_loopw [6, 7] (fun v i wr => ∃ (k : Nat) (U : Nat → Int) (p5 : Nat), (k : Int) ≤ N ∧ i = .int .i64 (N - k) ∧ Hid (Rd wr r s n c p5) ∧ Hid (Below w.heap.size w wr) ∧ Hid (Blk wr gq [.int .i64 0, .int .i64 0, .int .i64 0, .int .i64 0, .int .i64 0, .int .i64 0, .int .i64 0]) ∧ Hid (Blk wr gd [.int .i64 x0, .int .i64 x1, .int .i64 x2, .int .i64 x3, .int .i64 x4, .int .i64 x5, .int .i64 x6]) ∧ Hid (Lst ba 32 3 wr v k U) ∧ Hid (ba ≤ wr.heap.size)) (fun _ i _ => (intOf i).toNat)
  case atStart => exact ⟨0, fun _ => 0, pN, by omega, by simp, HR, HB, Hq, Hd, Ha, Za⟩
  case round =>
    clear HR HB Hq Hd Ha Za
    obtain ⟨k, U, p5, hk, rfl, HR, HB, Hq, Hd, Ha, Za⟩ := hrel
    by_cases hlt : (k : Int) < N
    case pos =>
      have q0 : 0 < N - (k : Int) := by omega
      go_wp2_with fail
      refine (act_any (HR.out.below (by repeat (first | with_reducible exact Below.refl _ _ | with_reducible refine Below.setCell ?_ (by first | omega | (simp; done) | (simp; omega)) _ | with_reducible refine bDrewN ?_ _ | with_reducible refine Below.drew ?_ | with_reducible refine Below.alloc ?_ (by first | omega | (simp; done) | (simp; omega)) _)))).mono ?_
      rintro e w6 ⟨a0, a1, a2, pa, rfl, R_, b_⟩
      have Hq_z : gq < wr.heap.size := Hq.out.1
      have Hd_z : gd < wr.heap.size := Hd.out.1
      have sz_ : w.heap.size ≤ wr.heap.size := HB.out.size
      have zr_ : r < wr.heap.size := HR.out.1
      have bb : Beside r wr w6 := (Beside.of (show Below wr.heap.size wr _ from (by repeat (first | with_reducible exact Below.refl _ _ | with_reducible refine Below.setCell ?_ (by first | omega | (simp; done) | (simp; omega)) _ | with_reducible refine bDrewN ?_ _ | with_reducible refine Below.drew ?_ | with_reducible refine Below.alloc ?_ (by first | omega | (simp; done) | (simp; omega)) _)))).trans b_
      replace Hq : Hid (Blk w6 gq [.int .i64 0, .int .i64 0, .int .i64 0, .int .i64 0, .int .i64 0, .int .i64 0, .int .i64 0]) := Hq.out.beside bb (by omega)
      replace Hd : Hid (Blk w6 gd [.int .i64 x0, .int .i64 x1, .int .i64 x2, .int .i64 x3, .int .i64 x4, .int .i64 x5, .int .i64 x6]) := Hd.out.beside bb (by omega)
      replace Ha : Hid (Lst ba 32 3 w6 u6 k U) := Ha.out.beside bb (by omega)
      replace Za : Hid (ba ≤ w6.heap.size) := Nat.le_trans Za.out bb.2.2.2.1
      replace HB : Hid (Below w.heap.size w w6) := HB.out.trans (bb.below (by omega) HB.out.size)
      replace HR : Hid (Rd w6 r s n c pa) := R_
      clear R_
      clear bb b_ sz_ zr_ Hq_z Hd_z
      have zl_ : ba ≤ w6.heap.size := Za.out
      go_wp2_with (at_builtin; refine list_Act ba u6 k U (.tmp 20) (.tmp 23) (by rfl) (by rfl) (by rfl) (by rfl) Ha.out (by omega) (by omega) ?_; intro g9 cap9 w7 l9 b9)
      have Na : Hid (Lst ba 32 3 w7 (.slice (some ⟨g9, 0, none⟩) (k + 1) cap9) (k + 1) (putL U 3 k [a0, a1, a2])) := l9
      clear zl_ l9
      replace Hq : Hid (Blk w7 gq [.int .i64 0, .int .i64 0, .int .i64 0, .int .i64 0, .int .i64 0, .int .i64 0, .int .i64 0]) := Hq.out.belowB b9 (by omega)
      replace Hd : Hid (Blk w7 gd [.int .i64 x0, .int .i64 x1, .int .i64 x2, .int .i64 x3, .int .i64 x4, .int .i64 x5, .int .i64 x6]) := Hd.out.belowB b9 (by omega)
      replace Za : Hid (ba ≤ w7.heap.size) := Nat.le_trans Za.out b9.size
      replace HR : Hid (Rd w7 r s n c pa) := Rd.below' HR.out (b9.mono (by omega))
      replace HB : Hid (Below w.heap.size w w7) := HB.out.trans (b9.mono (by omega))
      replace Ha := Na
      clear b9
      go_roundw
      case rel => exact ⟨k + 1, _, pa, by omega, by congr 1; omega, HR, HB, Hq, Hd, Ha, Za⟩
      case measure => simp [intOf]; omega
    case neg =>
      obtain rfl : (k : Int) = N := by omega
      rename World => wl
      go_wp2_with fail
      refine (once_any 40 (by omega) (by omega) (HR.out.below (by repeat (first | with_reducible exact Below.refl _ _ | with_reducible refine Below.setCell ?_ (by first | omega | (simp; done) | (simp; omega)) _ | with_reducible refine bDrewN ?_ _ | with_reducible refine Below.drew ?_ | with_reducible refine Below.alloc ?_ (by first | omega | (simp; done) | (simp; omega)) _)))).mono ?_
      rintro e w6 ⟨fl, pf, rfl, R_, b_⟩
      have Hq_z : gq < wl.heap.size := Hq.out.1
      have Hd_z : gd < wl.heap.size := Hd.out.1
      have sz_ : w.heap.size ≤ wl.heap.size := HB.out.size
      have zr_ : r < wl.heap.size := HR.out.1
      have bb : Beside r wl w6 := (Beside.of (show Below wl.heap.size wl _ from (by repeat (first | with_reducible exact Below.refl _ _ | with_reducible refine Below.setCell ?_ (by first | omega | (simp; done) | (simp; omega)) _ | with_reducible refine bDrewN ?_ _ | with_reducible refine Below.drew ?_ | with_reducible refine Below.alloc ?_ (by first | omega | (simp; done) | (simp; omega)) _)))).trans b_
      replace Hq : Hid (Blk w6 gq [.int .i64 0, .int .i64 0, .int .i64 0, .int .i64 0, .int .i64 0, .int .i64 0, .int .i64 0]) := Hq.out.beside bb (by omega)
      replace Hd : Hid (Blk w6 gd [.int .i64 x0, .int .i64 x1, .int .i64 x2, .int .i64 x3, .int .i64 x4, .int .i64 x5, .int .i64 x6]) := Hd.out.beside bb (by omega)
      replace Ha : Hid (Lst ba 32 3 w6 u6 k U) := Ha.out.beside bb (by omega)
      replace Za : Hid (ba ≤ w6.heap.size) := Nat.le_trans Za.out bb.2.2.2.1
      replace HB : Hid (Below w.heap.size w w6) := HB.out.trans (bb.below (by omega) HB.out.size)
      replace HR : Hid (Rd w6 r s n c pf) := R_
      clear R_
      clear bb b_ sz_ zr_ Hq_z Hd_z
      have k31 : k ≤ 31 := by omega
      have k01 : 1 ≤ k := by omega
      clear hk hlt N0 N1
      cases fl
      · skip
        obtain ⟨ta, cap, ev⟩ := Ha.out.form
        cases ev
        have hcap := Ha.out.cap
        obtain ⟨z_d, f_d, c_d⟩ := Hd.out
        have dc0 : w6.cell? ⟨gd, 0, none⟩ = some (.int .i64 x0) := c_d 0 _ rfl
        have dc1 : w6.cell? ⟨gd, 1, none⟩ = some (.int .i64 x1) := c_d 1 _ rfl
        have dc2 : w6.cell? ⟨gd, 2, none⟩ = some (.int .i64 x2) := c_d 2 _ rfl
        have dc3 : w6.cell? ⟨gd, 3, none⟩ = some (.int .i64 x3) := c_d 3 _ rfl
        have dc4 : w6.cell? ⟨gd, 4, none⟩ = some (.int .i64 x4) := c_d 4 _ rfl
        have dc5 : w6.cell? ⟨gd, 5, none⟩ = some (.int .i64 x5) := c_d 5 _ rfl
        have dc6 : w6.cell? ⟨gd, 6, none⟩ = some (.int .i64 x6) := c_d 6 _ rfl
        have fd := f_d
        clear f_d c_d
        obtain ⟨z_q, f_q, c_q⟩ := Hq.out
        have qc0 : w6.cell? ⟨gq, 0, none⟩ = some (.int .i64 0) := c_q 0 _ rfl
        have qc1 : w6.cell? ⟨gq, 1, none⟩ = some (.int .i64 0) := c_q 1 _ rfl
        have qc2 : w6.cell? ⟨gq, 2, none⟩ = some (.int .i64 0) := c_q 2 _ rfl
        have qc3 : w6.cell? ⟨gq, 3, none⟩ = some (.int .i64 0) := c_q 3 _ rfl
        have qc4 : w6.cell? ⟨gq, 4, none⟩ = some (.int .i64 0) := c_q 4 _ rfl
        have qc5 : w6.cell? ⟨gq, 5, none⟩ = some (.int .i64 0) := c_q 5 _ rfl
        have qc6 : w6.cell? ⟨gq, 6, none⟩ = some (.int .i64 0) := c_q 6 _ rfl
        have fq := f_q
        clear f_q c_q
        have fq0 := fq 0
        have fq1 := fq 1
        have fq2 := fq 2
        have fq3 := fq 3
        have fq4 := fq 4
        have fq5 := fq 5
        have fq6 := fq 6
        have n_ : gd ≠ gq := by omega
        have BF := HB.out
        have sBF := BF.size
        go_wp2
        have LF := (((((((Ha.out.beside (Beside.setCell gq _ 0 (.int .i64 x0)) (by omega)).beside (Beside.setCell gq _ 1 (.int .i64 x1)) (by omega)).beside (Beside.setCell gq _ 2 (.int .i64 x2)) (by omega)).beside (Beside.setCell gq _ 3 (.int .i64 x3)) (by omega)).beside (Beside.setCell gq _ 4 (.int .i64 x4)) (by omega)).beside (Beside.setCell gq _ 5 (.int .i64 x5)) (by omega)).beside (Beside.setCell gq _ 6 (.int .i64 x6)) (by omega))
        obtain ⟨t2, cap2, ev2, oa2⟩ := LF.own
        cases ev2
        refine bodyPost_ret (v := .tuple #[.agg #[.int .i64 x0, .int .i64 x1, .int .i64 x2, .int .i64 x3, .int .i64 x4, .int .i64 x5, .int .i64 x6], .slice ta k cap]) (by simp [results, Try.results8, go_sem, dc0, dc1, dc2, dc3, dc4, dc5, dc6, qc0, qc1, qc2, qc3, qc4, qc5, qc6, n_, n_.symm]) rfl ?_
        unfold DrunPost
        exact ⟨x0, x1, x2, x3, x4, x5, x6, ta, k, cap, U, rfl, by omega, by omega, hcap, oa2.row, (by repeat (first | with_reducible exact Below.refl _ _ | with_reducible exact BF | with_reducible refine Below.setCell ?_ (by first | omega | (simp; done) | (simp; omega)) _ | with_reducible refine bDrewN ?_ _ | with_reducible refine Below.drew ?_ | with_reducible refine Below.alloc ?_ (by first | omega | (simp; done) | (simp; omega)) _))⟩
      · skip
        go_wp2_with fail
        refine (below_any 2 (HR.out.below (by repeat (first | with_reducible exact Below.refl _ _ | with_reducible refine Below.setCell ?_ (by first | omega | (simp; done) | (simp; omega)) _ | with_reducible refine bDrewN ?_ _ | with_reducible refine Below.drew ?_ | with_reducible refine Below.alloc ?_ (by first | omega | (simp; done) | (simp; omega)) _)))).mono ?_
        rintro e w7 ⟨z, pz, rfl, z0, z1, z2, R_, b_⟩
        have Hq_z : gq < w6.heap.size := Hq.out.1
        have Hd_z : gd < w6.heap.size := Hd.out.1
        have sz_ : w.heap.size ≤ w6.heap.size := HB.out.size
        have zr_ : r < w6.heap.size := HR.out.1
        have bb : Beside r w6 w7 := (Beside.of (show Below w6.heap.size w6 _ from (by repeat (first | with_reducible exact Below.refl _ _ | with_reducible refine Below.setCell ?_ (by first | omega | (simp; done) | (simp; omega)) _ | with_reducible refine bDrewN ?_ _ | with_reducible refine Below.drew ?_ | with_reducible refine Below.alloc ?_ (by first | omega | (simp; done) | (simp; omega)) _)))).trans b_
        replace Hq : Hid (Blk w7 gq [.int .i64 0, .int .i64 0, .int .i64 0, .int .i64 0, .int .i64 0, .int .i64 0, .int .i64 0]) := Hq.out.beside bb (by omega)
        replace Hd : Hid (Blk w7 gd [.int .i64 x0, .int .i64 x1, .int .i64 x2, .int .i64 x3, .int .i64 x4, .int .i64 x5, .int .i64 x6]) := Hd.out.beside bb (by omega)
        replace Ha : Hid (Lst ba 32 3 w7 u6 k U) := Ha.out.beside bb (by omega)
        replace Za : Hid (ba ≤ w7.heap.size) := Nat.le_trans Za.out bb.2.2.2.1
        replace HB : Hid (Below w.heap.size w w7) := HB.out.trans (bb.below (by omega) HB.out.size)
        replace HR : Hid (Rd w7 r s n c pz) := R_
        clear R_
        clear bb b_ sz_ zr_ Hq_z Hd_z
        have z3 : z ≤ 1 := by omega
        clear z1 z2
        go_wp2_with fail
        go_loopw [6] (fun v wr => ∃ (j : Nat) (U : Nat → Int), 1 ≤ j ∧ (j : Int) ≤ 500 + z ∧ Hid (Rd wr r s n c pz) ∧ Hid (Below w.heap.size w wr) ∧ Hid (Blk wr gq [.int .i64 0, .int .i64 0, .int .i64 0, .int .i64 0, .int .i64 0, .int .i64 0, .int .i64 0]) ∧ Hid (Blk wr gd [.int .i64 x0, .int .i64 x1, .int .i64 x2, .int .i64 x3, .int .i64 x4, .int .i64 x5, .int .i64 x6]) ∧ Hid (Lst ba 32 3 wr v j U) ∧ Hid (ba ≤ wr.heap.size)) (fun v _ => ((500 + z) - (lenL v : Int)).toNat)
        case atStart => exact ⟨k, U, by omega, by omega, HR, HB, Hq, Hd, Ha, Za⟩
        case round =>
          clear HR HB Hq Hd Ha Za
          obtain ⟨j, U2, hj1, hj, HR, HB, Hq, Hd, Ha, Za⟩ := hrel
          obtain ⟨t1, cap1, eu⟩ := Ha.out.form
          subst eu
          by_cases hlt : (j : Int) < 500 + z
          case pos =>
            have zl_ : ba ≤ wr.heap.size := Za.out
            go_wp2_with (at_builtin; refine list_Act ba (.slice t1 j cap1) j U2 (.tmp 34) (.tmp 36) (by rfl) (by rfl) (by rfl) (by rfl) Ha.out (by omega) (by omega) ?_; intro g9 cap9 w8 l9 b9)
            have Na : Hid (Lst ba 32 3 w8 (.slice (some ⟨g9, 0, none⟩) (j + 1) cap9) (j + 1) (putL U2 3 j [3, 90, 3])) := l9
            clear zl_ l9
            replace Hq : Hid (Blk w8 gq [.int .i64 0, .int .i64 0, .int .i64 0, .int .i64 0, .int .i64 0, .int .i64 0, .int .i64 0]) := Hq.out.belowB b9 (by omega)
            replace Hd : Hid (Blk w8 gd [.int .i64 x0, .int .i64 x1, .int .i64 x2, .int .i64 x3, .int .i64 x4, .int .i64 x5, .int .i64 x6]) := Hd.out.belowB b9 (by omega)
            replace Za : Hid (ba ≤ w8.heap.size) := Nat.le_trans Za.out b9.size
            replace HR : Hid (Rd w8 r s n c pz) := Rd.below' HR.out (b9.mono (by omega))
            replace HB : Hid (Below w.heap.size w w8) := HB.out.trans (b9.mono (by omega))
            replace Ha := Na
            clear b9
            go_roundw
            case rel => exact ⟨j + 1, _, by omega, by omega, HR, HB, Hq, Hd, Ha, Za⟩
            case measure => simp [lenL]; omega
          case neg =>
            have hcap := Ha.out.cap
            obtain ⟨z_d, f_d, c_d⟩ := Hd.out
            have dc0 : wr.cell? ⟨gd, 0, none⟩ = some (.int .i64 x0) := c_d 0 _ rfl
            have dc1 : wr.cell? ⟨gd, 1, none⟩ = some (.int .i64 x1) := c_d 1 _ rfl
            have dc2 : wr.cell? ⟨gd, 2, none⟩ = some (.int .i64 x2) := c_d 2 _ rfl
            have dc3 : wr.cell? ⟨gd, 3, none⟩ = some (.int .i64 x3) := c_d 3 _ rfl
            have dc4 : wr.cell? ⟨gd, 4, none⟩ = some (.int .i64 x4) := c_d 4 _ rfl
            have dc5 : wr.cell? ⟨gd, 5, none⟩ = some (.int .i64 x5) := c_d 5 _ rfl
            have dc6 : wr.cell? ⟨gd, 6, none⟩ = some (.int .i64 x6) := c_d 6 _ rfl
            have fd := f_d
            clear f_d c_d
            obtain ⟨z_q, f_q, c_q⟩ := Hq.out
            have qc0 : wr.cell? ⟨gq, 0, none⟩ = some (.int .i64 0) := c_q 0 _ rfl
            have qc1 : wr.cell? ⟨gq, 1, none⟩ = some (.int .i64 0) := c_q 1 _ rfl
            have qc2 : wr.cell? ⟨gq, 2, none⟩ = some (.int .i64 0) := c_q 2 _ rfl
            have qc3 : wr.cell? ⟨gq, 3, none⟩ = some (.int .i64 0) := c_q 3 _ rfl
            have qc4 : wr.cell? ⟨gq, 4, none⟩ = some (.int .i64 0) := c_q 4 _ rfl
            have qc5 : wr.cell? ⟨gq, 5, none⟩ = some (.int .i64 0) := c_q 5 _ rfl
            have qc6 : wr.cell? ⟨gq, 6, none⟩ = some (.int .i64 0) := c_q 6 _ rfl
            have fq := f_q
            clear f_q c_q
            have fq0 := fq 0
            have fq1 := fq 1
            have fq2 := fq 2
            have fq3 := fq 3
            have fq4 := fq 4
            have fq5 := fq 5
            have fq6 := fq 6
            have n_ : gd ≠ gq := by omega
            have BF := HB.out
            have sBF := BF.size
            go_wp2
            have LF := (((((((Ha.out.beside (Beside.setCell gq _ 0 (.int .i64 x0)) (by omega)).beside (Beside.setCell gq _ 1 (.int .i64 x1)) (by omega)).beside (Beside.setCell gq _ 2 (.int .i64 x2)) (by omega)).beside (Beside.setCell gq _ 3 (.int .i64 x3)) (by omega)).beside (Beside.setCell gq _ 4 (.int .i64 x4)) (by omega)).beside (Beside.setCell gq _ 5 (.int .i64 x5)) (by omega)).beside (Beside.setCell gq _ 6 (.int .i64 x6)) (by omega))
            obtain ⟨t2, cap2, ev2, oa2⟩ := LF.own
            cases ev2
            refine bodyPost_ret (v := .tuple #[.agg #[.int .i64 x0, .int .i64 x1, .int .i64 x2, .int .i64 x3, .int .i64 x4, .int .i64 x5, .int .i64 x6], .slice t1 j cap1]) (by simp [results, Try.results8, go_sem, dc0, dc1, dc2, dc3, dc4, dc5, dc6, qc0, qc1, qc2, qc3, qc4, qc5, qc6, n_, n_.symm]) rfl ?_
            unfold DrunPost
            exact ⟨x0, x1, x2, x3, x4, x5, x6, t1, j, cap1, U2, rfl, by omega, by omega, hcap, oa2.row, (by repeat (first | with_reducible exact Below.refl _ _ | with_reducible exact BF | with_reducible refine Below.setCell ?_ (by first | omega | (simp; done) | (simp; omega)) _ | with_reducible refine bDrewN ?_ _ | with_reducible refine Below.drew ?_ | with_reducible refine Below.alloc ?_ (by first | omega | (simp; done) | (simp; omega)) _))⟩
end Go.Proofs.Ytjiojofgpdimaaa
