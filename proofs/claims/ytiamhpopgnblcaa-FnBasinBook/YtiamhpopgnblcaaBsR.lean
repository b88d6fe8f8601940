/-
What is proved: a basin, its bound, its rule and its days that are drawn from a code: any int64s, at most 501 days.
-/
import Derived.Test.YtiamhpopgnblcaaBsD
import Derived.Test.YtiamhpopgnblcaaSiz
import Derived.Test.YtiamhpopgnblcaaRdC
import Derived.Test.YtiamhpopgnblcaaLsWater
import Derived.Deep.DeepCutAuto
import Derived.RegionTactic
namespace Go.Proofs.Ytiamhpopgnblcaa
set_option maxRecDepth 40000
open Go.ChangeShapes Go.WideShapes Go.ChangeAt Go.RowKit
set_option linter.unusedVariables false
set_option linter.unusedSimpArgs false

def BsnPost (w : World) (e : Ending) (w' : World) : Prop := ∃ (x0 x1 x2 x3 full : Int) (tr : Option Addr) (mr capr : Nat) (Ur : Nat → Int) (t : Option Addr) (m cap : Nat) (U : Nat → Int), e = .returned (.tuple #[.agg #[.int .i64 x0, .int .i64 x1, .int .i64 x2, .int .i64 x3], .int .i64 full, .slice tr mr capr, .slice t m cap]) ∧ mr ≤ 14 ∧ RowI w' tr (mr * 2) Ur ∧ m ≤ 501 ∧ RowI w' t (m * 3) U ∧ Below w.heap.size w w'
set_option maxRecDepth 20000 in
set_option maxHeartbeats 8000000 in
theorem drawBasinRun_any {s : Option Addr} {n c : Nat} {w : World} (h : Hid (Code8 w s n)) :
    Calls Try.prog 7 #[.slice s n c] w fun e w' => BsnPost w e w' := by
  go_enter Try.func7, Try.ntmps7
  go_wp2_with fail
  refine (open_any (h.out.below (by repeat (first | with_reducible exact Below.refl _ _ | with_reducible refine Below.setCell ?_ (by first | omega | (simp; done) | (simp; omega)) _ | with_reducible refine bDrewN ?_ _ | with_reducible refine Below.drew ?_ | with_reducible refine Below.alloc ?_ (by first | omega | (simp; done) | (simp; omega)) _)))).mono ?_
  rintro e w1 ⟨rfl, R_, b_⟩
  obtain ⟨r, hr⟩ : ∃ r, r = w.heap.size + 1 := ⟨_, rfl⟩
  have HR : Hid (Rd w1 r s n c 0) := by show Rd _ _ _ _ _ _; rw [hr]; simpa using R_
  have HB : Hid (Below w.heap.size w w1) := (show Below w.heap.size w _ from (by repeat (first | with_reducible exact Below.refl _ _ | with_reducible refine Below.setCell ?_ (by first | omega | (simp; done) | (simp; omega)) _ | with_reducible refine bDrewN ?_ _ | with_reducible refine Below.drew ?_ | with_reducible refine Below.alloc ?_ (by first | omega | (simp; done) | (simp; omega)) _))).trans (b_.mono (by first | omega | (simp; done) | (simp; omega)))
  obtain ⟨gq, hgq⟩ : ∃ g, g = w.heap.size := ⟨_, rfl⟩
  have Hq : Hid (Blk w1 gq [.int .i64 0, .int .i64 0, .int .i64 0, .int .i64 0]) := by
    show Blk _ _ _
    have q := ((Blk.new w #[.int .i64 0, .int .i64 0, .int .i64 0, .int .i64 0] 25)).below b_
    rw [hgq]; exact q
  have lgq : w.heap.size ≤ gq := by omega
  have rgq : gq < r := by omega
  have zr : w.heap.size ≤ r := by omega
  try rw [show (w.alloc (.cells #[.int .i64 0, .int .i64 0, .int .i64 0, .int .i64 0] 25)).heap.size = r by rw [hr]; simp]
  try rw [← hr]
  try rw [← hgq]
  clear hgq
  clear R_ b_ h hr
  go_wp2_with fail
  refine (basin_any (HR.out.below (by repeat (first | with_reducible exact Below.refl _ _ | with_reducible refine Below.setCell ?_ (by first | omega | (simp; done) | (simp; omega)) _ | with_reducible refine bDrewN ?_ _ | with_reducible refine Below.drew ?_ | with_reducible refine Below.alloc ?_ (by first | omega | (simp; done) | (simp; omega)) _)))).mono ?_
  rintro e w2 ⟨x0, x1, x2, x3, pd, rfl, R_, b_⟩
  have Hq_z : gq < w1.heap.size := Hq.out.1
  have sz_ : w.heap.size ≤ w1.heap.size := HB.out.size
  have zr_ : r < w1.heap.size := HR.out.1
  have bb : Beside r w1 w2 := (Beside.of (show Below w1.heap.size w1 _ from (by repeat (first | with_reducible exact Below.refl _ _ | with_reducible refine Below.setCell ?_ (by first | omega | (simp; done) | (simp; omega)) _ | with_reducible refine bDrewN ?_ _ | with_reducible refine Below.drew ?_ | with_reducible refine Below.alloc ?_ (by first | omega | (simp; done) | (simp; omega)) _)))).trans b_
  replace Hq : Hid (Blk w2 gq [.int .i64 0, .int .i64 0, .int .i64 0, .int .i64 0]) := Hq.out.beside bb (by omega)
  replace HB : Hid (Below w.heap.size w w2) := HB.out.trans (bb.below (by omega) HB.out.size)
  replace HR : Hid (Rd w2 r s n c pd) := R_
  clear R_
  clear bb b_ sz_ zr_ Hq_z
  go_upto_region 3 with fail
  have Hq_z : gq < w2.heap.size := Hq.out.1
  have sz_ : w.heap.size ≤ w2.heap.size := HB.out.size
  have zr_ : r < w2.heap.size := HR.out.1
  obtain ⟨w3, hw_⟩ : ∃ x_, x_ = (w2.alloc (.cells #[.int .i64 x0, .int .i64 x1, .int .i64 x2, .int .i64 x3] 25)) := ⟨_, rfl⟩
  rw [← hw_]
  replace Hq : Hid (Blk w3 gq [.int .i64 0, .int .i64 0, .int .i64 0, .int .i64 0]) := by show Blk _ _ _; rw [hw_]; exact (Hq.out.below (below0 _ _))
  obtain ⟨gd, hgd⟩ : ∃ g, g = w2.heap.size := ⟨_, rfl⟩
  have Hd : Hid (Blk w3 gd [.int .i64 x0, .int .i64 x1, .int .i64 x2, .int .i64 x3]) := by show Blk _ _ _; rw [hw_, hgd]; have q := (Blk.new w2 #[.int .i64 x0, .int .i64 x1, .int .i64 x2, .int .i64 x3] 25); first | exact q | exact (by simpa using q)
  replace HR : Hid (Rd w3 r s n c pd) := by show Rd _ _ _ _ _ _; rw [hw_]; exact Rd.below' HR.out (show Below (r + 1) w2 _ from (by repeat (first | with_reducible exact Below.refl _ _ | with_reducible refine Below.setCell ?_ (by first | omega | (simp; done) | (simp; omega)) _ | with_reducible refine bDrewN ?_ _ | with_reducible refine Below.drew ?_ | with_reducible refine Below.alloc ?_ (by first | omega | (simp; done) | (simp; omega)) _)))
  replace HB : Hid (Below w.heap.size w w3) := by show Below _ _ _; rw [hw_]; exact HB.out.trans (show Below w.heap.size w2 _ from (by repeat (first | with_reducible exact Below.refl _ _ | with_reducible refine Below.setCell ?_ (by first | omega | (simp; done) | (simp; omega)) _ | with_reducible refine bDrewN ?_ _ | with_reducible refine Below.drew ?_ | with_reducible refine Below.alloc ?_ (by first | omega | (simp; done) | (simp; omega)) _)))
  clear hw_
  have lgd : w.heap.size ≤ gd := by omega
  have rgd : r < gd := by omega
  have dgqgd : gq < gd := by omega
  try rw [← hgd]
  clear hgd
  clear sz_ zr_ Hq_z
  go_wp2_with fail
  refine (below_any 3 (HR.out.below (by repeat (first | with_reducible exact Below.refl _ _ | with_reducible refine Below.setCell ?_ (by first | omega | (simp; done) | (simp; omega)) _ | with_reducible refine bDrewN ?_ _ | with_reducible refine Below.drew ?_ | with_reducible refine Below.alloc ?_ (by first | omega | (simp; done) | (simp; omega)) _)))).mono ?_
  rintro e w4 ⟨j3, p3, rfl, j3a, j3b, j3c, R_, b_⟩
  have Hq_z : gq < w3.heap.size := Hq.out.1
  have Hd_z : gd < w3.heap.size := Hd.out.1
  have sz_ : w.heap.size ≤ w3.heap.size := HB.out.size
  have zr_ : r < w3.heap.size := HR.out.1
  have bb : Beside r w3 w4 := (Beside.of (show Below w3.heap.size w3 _ from (by repeat (first | with_reducible exact Below.refl _ _ | with_reducible refine Below.setCell ?_ (by first | omega | (simp; done) | (simp; omega)) _ | with_reducible refine bDrewN ?_ _ | with_reducible refine Below.drew ?_ | with_reducible refine Below.alloc ?_ (by first | omega | (simp; done) | (simp; omega)) _)))).trans b_
  obtain ⟨gt, hgt⟩ : ∃ g, g = w3.heap.size := ⟨_, rfl⟩
  have Ht : Hid (Blk w4 gt [.int .i64 500, .int .i64 2500, .int .i64 1000000000000]) := by
    show Blk _ _ _
    have q := ((Blk.new w3 #[.int .i64 500, .int .i64 2500, .int .i64 1000000000000] 2)).beside b_ (by first | omega | (simp; omega))
    rw [hgt]; exact q
  replace Hq : Hid (Blk w4 gq [.int .i64 0, .int .i64 0, .int .i64 0, .int .i64 0]) := Hq.out.beside bb (by omega)
  replace Hd : Hid (Blk w4 gd [.int .i64 x0, .int .i64 x1, .int .i64 x2, .int .i64 x3]) := Hd.out.beside bb (by omega)
  replace HB : Hid (Below w.heap.size w w4) := HB.out.trans (bb.below (by omega) HB.out.size)
  replace HR : Hid (Rd w4 r s n c p3) := R_
  clear R_
  have lgt : w.heap.size ≤ gt := by omega
  have rgt : r < gt := by omega
  have dgqgt : gq < gt := by omega
  have dgdgt : gd < gt := by omega
  try rw [← hgt]
  clear hgt
  clear bb b_ sz_ zr_ Hq_z Hd_z
  have pk_ : Hid (Blk w4 gt (List.map (Value.int .i64) [500, 2500, 1000000000000])) := Ht
  obtain ⟨j3n, mo, rfl, j3l, j3v, j3m⟩ := picked (w' := w4) pk_.out j3a (by simp; omega)
  have moa : 500 ≤ mo := by simp at j3m; omega
  have mob : mo ≤ 1000000000000 := by simp at j3m; omega
  have j3l2 : ((j3n : Nat) : Int) < 3 := by simpa using j3l
  clear pk_ j3m j3b j3c j3l
  go_wp2_with fail
  refine (off_any 0 mo (by omega) (by omega) (by omega) (HR.out.below (by repeat (first | with_reducible exact Below.refl _ _ | with_reducible refine Below.setCell ?_ (by first | omega | (simp; done) | (simp; omega)) _ | with_reducible refine bDrewN ?_ _ | with_reducible refine Below.drew ?_ | with_reducible refine Below.alloc ?_ (by first | omega | (simp; done) | (simp; omega)) _)))).mono ?_
  rintro e w5 ⟨full, pfu, rfl, fu0, R_, b_⟩
  have Hq_z : gq < w4.heap.size := Hq.out.1
  have Hd_z : gd < w4.heap.size := Hd.out.1
  have Ht_z : gt < w4.heap.size := Ht.out.1
  have sz_ : w.heap.size ≤ w4.heap.size := HB.out.size
  have zr_ : r < w4.heap.size := HR.out.1
  have bb : Beside r w4 w5 := (Beside.of (show Below w4.heap.size w4 _ from (by repeat (first | with_reducible exact Below.refl _ _ | with_reducible refine Below.setCell ?_ (by first | omega | (simp; done) | (simp; omega)) _ | with_reducible refine bDrewN ?_ _ | with_reducible refine Below.drew ?_ | with_reducible refine Below.alloc ?_ (by first | omega | (simp; done) | (simp; omega)) _)))).trans b_
  replace Hq : Hid (Blk w5 gq [.int .i64 0, .int .i64 0, .int .i64 0, .int .i64 0]) := Hq.out.beside bb (by omega)
  replace Hd : Hid (Blk w5 gd [.int .i64 x0, .int .i64 x1, .int .i64 x2, .int .i64 x3]) := Hd.out.beside bb (by omega)
  replace Ht : Hid (Blk w5 gt [.int .i64 500, .int .i64 2500, .int .i64 1000000000000]) := Ht.out.beside bb (by omega)
  replace HB : Hid (Below w.heap.size w w5) := HB.out.trans (bb.below (by omega) HB.out.size)
  replace HR : Hid (Rd w5 r s n c pfu) := R_
  clear R_
  clear bb b_ sz_ zr_ Hq_z Hd_z Ht_z
  clear j3v
  clear Ht
  have zrk : r < w5.heap.size := HR.out.1
  have zqk : gq < w5.heap.size := Hq.out.1
  go_wp2_with fail
  refine (rule_any (HR.out.below (by repeat (first | with_reducible exact Below.refl _ _ | with_reducible refine Below.setCell ?_ (by first | omega | (simp; done) | (simp; omega)) _ | with_reducible refine bDrewN ?_ _ | with_reducible refine Below.drew ?_ | with_reducible refine Below.alloc ?_ (by first | omega | (simp; done) | (simp; omega)) _)))).mono ?_
  rintro e w6 ⟨tr, mr, capr, Ur, pr, rfl, mr1, mr14, RW, R_, b_⟩
  have Hq_z : gq < w5.heap.size := Hq.out.1
  have Hd_z : gd < w5.heap.size := Hd.out.1
  have sz_ : w.heap.size ≤ w5.heap.size := HB.out.size
  have zr_ : r < w5.heap.size := HR.out.1
  have bb : Beside r w5 w6 := (Beside.of (show Below w5.heap.size w5 _ from (by repeat (first | with_reducible exact Below.refl _ _ | with_reducible refine Below.setCell ?_ (by first | omega | (simp; done) | (simp; omega)) _ | with_reducible refine bDrewN ?_ _ | with_reducible refine Below.drew ?_ | with_reducible refine Below.alloc ?_ (by first | omega | (simp; done) | (simp; omega)) _)))).trans b_
  replace Hq : Hid (Blk w6 gq [.int .i64 0, .int .i64 0, .int .i64 0, .int .i64 0]) := Hq.out.beside bb (by omega)
  replace Hd : Hid (Blk w6 gd [.int .i64 x0, .int .i64 x1, .int .i64 x2, .int .i64 x3]) := Hd.out.beside bb (by omega)
  replace HB : Hid (Below w.heap.size w w6) := HB.out.trans (bb.below (by omega) HB.out.size)
  replace HR : Hid (Rd w6 r s n c pr) := R_
  clear R_
  clear bb b_ sz_ zr_ Hq_z Hd_z
  have HW : Hid (OwnI w5.heap.size w6 tr (mr * 2) Ur) := RW
  clear RW
  have HK : Hid (Beside r w6 w6) := Beside.of (Below.refl _ _)
  go_upto_region 6 with fail
  have Hq_z : gq < w6.heap.size := Hq.out.1
  have Hd_z : gd < w6.heap.size := Hd.out.1
  have sz_ : w.heap.size ≤ w6.heap.size := HB.out.size
  have zr_ : r < w6.heap.size := HR.out.1
  obtain ⟨w7, hw_⟩ : ∃ x_, x_ = w6.alloc (.cells #[] 33) := ⟨_, rfl⟩
  rw [← hw_]
  have bl_ : Below w6.heap.size w6 w7 := by rw [hw_]; exact below0 _ _
  obtain ⟨ba, hba⟩ : ∃ g, g = w6.heap.size := ⟨_, rfl⟩
  have Ha : Hid (Lst ba 33 3 w7 (.slice (some ⟨ba, 0, none⟩) 0 0) 0 (fun _ => 0)) := by show Lst _ _ _ _ _ _ _; rw [hw_, hba]; exact Lst.lit w6 _ 33 33 3 _ (Nat.le_refl _)
  replace Hq : Hid (Blk w7 gq [.int .i64 0, .int .i64 0, .int .i64 0, .int .i64 0]) := Hq.out.below bl_
  replace Hd : Hid (Blk w7 gd [.int .i64 x0, .int .i64 x1, .int .i64 x2, .int .i64 x3]) := Hd.out.below bl_
  replace HR : Hid (Rd w7 r s n c pr) := HR.out.below bl_
  have lHKba : w6.heap.size ≤ ba := by have := HK.out.2.2.2.1; omega
  replace HK : Hid (Beside r w6 w7) := HK.out.trans (Beside.of bl_)
  replace HB : Hid (Below w.heap.size w w7) := HB.out.trans (bl_.mono sz_)
  have lba : w.heap.size ≤ ba := by omega
  have rba : r < ba := by omega
  have dgqba : gq < ba := by omega
  have dgdba : gd < ba := by omega
  have Za : Hid (ba ≤ w7.heap.size) := by show _ ≤ _; have := bl_.size; omega
  try rw [← hba]
  clear hw_ hba bl_ sz_ zr_ Hq_z Hd_z
  go_wp2_with fail
  refine (size_any 8 24 (by omega) (by omega) (by omega) (by omega) (HR.out.below (by repeat (first | with_reducible exact Below.refl _ _ | with_reducible refine Below.setCell ?_ (by first | omega | (simp; done) | (simp; omega)) _ | with_reducible refine bDrewN ?_ _ | with_reducible refine Below.drew ?_ | with_reducible refine Below.alloc ?_ (by first | omega | (simp; done) | (simp; omega)) _)))).mono ?_
  rintro e w8 ⟨N, pN, rfl, N0, N1, R_, b_⟩
  have Hq_z : gq < w7.heap.size := Hq.out.1
  have Hd_z : gd < w7.heap.size := Hd.out.1
  have sz_ : w.heap.size ≤ w7.heap.size := HB.out.size
  have zr_ : r < w7.heap.size := HR.out.1
  have bb : Beside r w7 w8 := (Beside.of (show Below w7.heap.size w7 _ from (by repeat (first | with_reducible exact Below.refl _ _ | with_reducible refine Below.setCell ?_ (by first | omega | (simp; done) | (simp; omega)) _ | with_reducible refine bDrewN ?_ _ | with_reducible refine Below.drew ?_ | with_reducible refine Below.alloc ?_ (by first | omega | (simp; done) | (simp; omega)) _)))).trans b_
  replace Hq : Hid (Blk w8 gq [.int .i64 0, .int .i64 0, .int .i64 0, .int .i64 0]) := Hq.out.beside bb (by omega)
  replace Hd : Hid (Blk w8 gd [.int .i64 x0, .int .i64 x1, .int .i64 x2, .int .i64 x3]) := Hd.out.beside bb (by omega)
  replace Ha : Hid (Lst ba 33 3 w8 (.slice (some ⟨ba, 0, none⟩) 0 0) 0 (fun _ => 0)) := Ha.out.beside bb (by omega)
  replace Za : Hid (ba ≤ w8.heap.size) := Nat.le_trans Za.out bb.2.2.2.1
  replace HK : Hid (Beside r w6 w8) := HK.out.trans bb
  replace HB : Hid (Below w.heap.size w w8) := HB.out.trans (bb.below (by omega) HB.out.size)
  replace HR : Hid (Rd w8 r s n c pN) := R_
  clear R_
  clear bb b_ sz_ zr_ Hq_z Hd_z
  go_wp2_with fail
  go_loopw [10, 11] (fun v i wr => ∃ (k : Nat) (U : Nat → Int) (p5 : Nat), (k : Int) ≤ N ∧ i = .int .i64 (N - k) ∧ Hid (Rd wr r s n c p5) ∧ Hid (Below w.heap.size w wr) ∧ Hid (Blk wr gq [.int .i64 0, .int .i64 0, .int .i64 0, .int .i64 0]) ∧ Hid (Blk wr gd [.int .i64 x0, .int .i64 x1, .int .i64 x2, .int .i64 x3]) ∧ Hid (Lst ba 33 3 wr v k U) ∧ Hid (ba ≤ wr.heap.size) ∧ Hid (Beside r w6 wr)) (fun _ i _ => (intOf i).toNat)
  case atStart => exact ⟨0, fun _ => 0, pN, by omega, by simp, HR, HB, Hq, Hd, Ha, Za, HK⟩
  case round =>
    clear HR HB Hq Hd Ha Za HK
    obtain ⟨k, U, p5, hk, rfl, HR, HB, Hq, Hd, Ha, Za, HK⟩ := hrel
    by_cases hlt : (k : Int) < N
    case pos =>
      have q0 : 0 < N - (k : Int) := by omega
      go_wp2_with fail
      refine (water_any (HR.out.below (by repeat (first | with_reducible exact Below.refl _ _ | with_reducible refine Below.setCell ?_ (by first | omega | (simp; done) | (simp; omega)) _ | with_reducible refine bDrewN ?_ _ | with_reducible refine Below.drew ?_ | with_reducible refine Below.alloc ?_ (by first | omega | (simp; done) | (simp; omega)) _)))).mono ?_
      rintro e w9 ⟨a0, a1, a2, pa, rfl, R_, b_⟩
      have Hq_z : gq < wr.heap.size := Hq.out.1
      have Hd_z : gd < wr.heap.size := Hd.out.1
      have sz_ : w.heap.size ≤ wr.heap.size := HB.out.size
      have zr_ : r < wr.heap.size := HR.out.1
      have bb : Beside r wr w9 := (Beside.of (show Below wr.heap.size wr _ from (by repeat (first | with_reducible exact Below.refl _ _ | with_reducible refine Below.setCell ?_ (by first | omega | (simp; done) | (simp; omega)) _ | with_reducible refine bDrewN ?_ _ | with_reducible refine Below.drew ?_ | with_reducible refine Below.alloc ?_ (by first | omega | (simp; done) | (simp; omega)) _)))).trans b_
      replace Hq : Hid (Blk w9 gq [.int .i64 0, .int .i64 0, .int .i64 0, .int .i64 0]) := Hq.out.beside bb (by omega)
      replace Hd : Hid (Blk w9 gd [.int .i64 x0, .int .i64 x1, .int .i64 x2, .int .i64 x3]) := Hd.out.beside bb (by omega)
      replace Ha : Hid (Lst ba 33 3 w9 u10 k U) := Ha.out.beside bb (by omega)
      replace Za : Hid (ba ≤ w9.heap.size) := Nat.le_trans Za.out bb.2.2.2.1
      replace HK : Hid (Beside r w6 w9) := HK.out.trans bb
      replace HB : Hid (Below w.heap.size w w9) := HB.out.trans (bb.below (by omega) HB.out.size)
      replace HR : Hid (Rd w9 r s n c pa) := R_
      clear R_
      clear bb b_ sz_ zr_ Hq_z Hd_z
      have zl_ : ba ≤ w9.heap.size := Za.out
      go_wp2_with (at_builtin; refine list_Water ba u10 k U (.tmp 33) (.tmp 36) (by rfl) (by rfl) (by rfl) (by rfl) Ha.out (by omega) (by omega) ?_; intro g9 cap9 w10 l9 b9)
      have Na : Hid (Lst ba 33 3 w10 (.slice (some ⟨g9, 0, none⟩) (k + 1) cap9) (k + 1) (putL U 3 k [a0, a1, a2])) := l9
      clear zl_ l9
      replace Hq : Hid (Blk w10 gq [.int .i64 0, .int .i64 0, .int .i64 0, .int .i64 0]) := Hq.out.belowB b9 (by omega)
      replace Hd : Hid (Blk w10 gd [.int .i64 x0, .int .i64 x1, .int .i64 x2, .int .i64 x3]) := Hd.out.belowB b9 (by omega)
      replace Za : Hid (ba ≤ w10.heap.size) := Nat.le_trans Za.out b9.size
      replace HK : Hid (Beside r w6 w10) := HK.out.onB (b9.mono (by omega))
      replace HR : Hid (Rd w10 r s n c pa) := Rd.below' HR.out (b9.mono (by omega))
      replace HB : Hid (Below w.heap.size w w10) := HB.out.trans (b9.mono (by omega))
      replace Ha := Na
      clear b9
      go_roundw
      case rel => exact ⟨k + 1, _, pa, by omega, by congr 1; omega, HR, HB, Hq, Hd, Ha, Za, HK⟩
      case measure => simp [intOf]; omega
    case neg =>
      obtain rfl : (k : Int) = N := by omega
      rename World => wl
      go_wp2_with fail
      refine (once_any 40 (by omega) (by omega) (HR.out.below (by repeat (first | with_reducible exact Below.refl _ _ | with_reducible refine Below.setCell ?_ (by first | omega | (simp; done) | (simp; omega)) _ | with_reducible refine bDrewN ?_ _ | with_reducible refine Below.drew ?_ | with_reducible refine Below.alloc ?_ (by first | omega | (simp; done) | (simp; omega)) _)))).mono ?_
      rintro e w9 ⟨fl, pf, rfl, R_, b_⟩
      have Hq_z : gq < wl.heap.size := Hq.out.1
      have Hd_z : gd < wl.heap.size := Hd.out.1
      have sz_ : w.heap.size ≤ wl.heap.size := HB.out.size
      have zr_ : r < wl.heap.size := HR.out.1
      have bb : Beside r wl w9 := (Beside.of (show Below wl.heap.size wl _ from (by repeat (first | with_reducible exact Below.refl _ _ | with_reducible refine Below.setCell ?_ (by first | omega | (simp; done) | (simp; omega)) _ | with_reducible refine bDrewN ?_ _ | with_reducible refine Below.drew ?_ | with_reducible refine Below.alloc ?_ (by first | omega | (simp; done) | (simp; omega)) _)))).trans b_
      replace Hq : Hid (Blk w9 gq [.int .i64 0, .int .i64 0, .int .i64 0, .int .i64 0]) := Hq.out.beside bb (by omega)
      replace Hd : Hid (Blk w9 gd [.int .i64 x0, .int .i64 x1, .int .i64 x2, .int .i64 x3]) := Hd.out.beside bb (by omega)
      replace Ha : Hid (Lst ba 33 3 w9 u10 k U) := Ha.out.beside bb (by omega)
      replace Za : Hid (ba ≤ w9.heap.size) := Nat.le_trans Za.out bb.2.2.2.1
      replace HK : Hid (Beside r w6 w9) := HK.out.trans bb
      replace HB : Hid (Below w.heap.size w w9) := HB.out.trans (bb.below (by omega) HB.out.size)
      replace HR : Hid (Rd w9 r s n c pf) := R_
      clear R_
      clear bb b_ sz_ zr_ Hq_z Hd_z
      have k31 : k ≤ 31 := by omega
      clear hk hlt N0 N1
      cases fl
      · skip
        obtain ⟨ta, cap, ev⟩ := Ha.out.form
        cases ev
        obtain ⟨z_d, f_d, c_d⟩ := Hd.out
        have dc0 : w9.cell? ⟨gd, 0, none⟩ = some (.int .i64 x0) := c_d 0 _ rfl
        have dc1 : w9.cell? ⟨gd, 1, none⟩ = some (.int .i64 x1) := c_d 1 _ rfl
        have dc2 : w9.cell? ⟨gd, 2, none⟩ = some (.int .i64 x2) := c_d 2 _ rfl
        have dc3 : w9.cell? ⟨gd, 3, none⟩ = some (.int .i64 x3) := c_d 3 _ rfl
        have fd := f_d
        clear f_d c_d
        obtain ⟨z_q, f_q, c_q⟩ := Hq.out
        have qc0 : w9.cell? ⟨gq, 0, none⟩ = some (.int .i64 0) := c_q 0 _ rfl
        have qc1 : w9.cell? ⟨gq, 1, none⟩ = some (.int .i64 0) := c_q 1 _ rfl
        have qc2 : w9.cell? ⟨gq, 2, none⟩ = some (.int .i64 0) := c_q 2 _ rfl
        have qc3 : w9.cell? ⟨gq, 3, none⟩ = some (.int .i64 0) := c_q 3 _ rfl
        have fq := f_q
        clear f_q c_q
        have fq0 := fq 0
        have fq1 := fq 1
        have fq2 := fq 2
        have fq3 := fq 3
        have n_ : gd ≠ gq := by omega
        have BF := HB.out
        have sBF := BF.size
        have zWr : w5.heap.size ≤ w5.heap.size := Nat.le_refl _
        have OWF : Hid (OwnI w5.heap.size w9 tr (mr * 2) Ur) := ownB_beside HW.out HK.out (by omega)
        clear HW HK
        go_wp2
        have LF := ((((Ha.out.beside (Beside.setCell gq _ 0 (.int .i64 x0)) (by omega)).beside (Beside.setCell gq _ 1 (.int .i64 x1)) (by omega)).beside (Beside.setCell gq _ 2 (.int .i64 x2)) (by omega)).beside (Beside.setCell gq _ 3 (.int .i64 x3)) (by omega))
        have WF := (ownB_beside (ownB_beside (ownB_beside (ownB_beside OWF.out (Beside.setCell gq _ 0 (.int .i64 x0)) (by omega)) (Beside.setCell gq _ 1 (.int .i64 x1)) (by omega)) (Beside.setCell gq _ 2 (.int .i64 x2)) (by omega)) (Beside.setCell gq _ 3 (.int .i64 x3)) (by omega))
        obtain ⟨t2, cap2, ev2, oa2⟩ := LF.own
        cases ev2
        refine bodyPost_ret (v := .tuple #[.agg #[.int .i64 x0, .int .i64 x1, .int .i64 x2, .int .i64 x3], .int .i64 full, .slice tr mr capr, .slice ta k cap]) (by simp [results, Try.results7, go_sem, dc0, dc1, dc2, dc3, qc0, qc1, qc2, qc3, n_, n_.symm]) rfl ?_
        unfold BsnPost
        exact ⟨x0, x1, x2, x3, full, tr, mr, capr, Ur, ta, k, cap, U, rfl, by omega, WF.row, by omega, oa2.row, (by repeat (first | with_reducible exact Below.refl _ _ | with_reducible exact BF | with_reducible refine Below.setCell ?_ (by first | omega | (simp; done) | (simp; omega)) _ | with_reducible refine bDrewN ?_ _ | with_reducible refine Below.drew ?_ | with_reducible refine Below.alloc ?_ (by first | omega | (simp; done) | (simp; omega)) _))⟩
      · skip
        go_wp2_with fail
        refine (below_any 2 (HR.out.below (by repeat (first | with_reducible exact Below.refl _ _ | with_reducible refine Below.setCell ?_ (by first | omega | (simp; done) | (simp; omega)) _ | with_reducible refine bDrewN ?_ _ | with_reducible refine Below.drew ?_ | with_reducible refine Below.alloc ?_ (by first | omega | (simp; done) | (simp; omega)) _)))).mono ?_
        rintro e w10 ⟨z, pz, rfl, z0, z1, z2, R_, b_⟩
        have Hq_z : gq < w9.heap.size := Hq.out.1
        have Hd_z : gd < w9.heap.size := Hd.out.1
        have sz_ : w.heap.size ≤ w9.heap.size := HB.out.size
        have zr_ : r < w9.heap.size := HR.out.1
        have bb : Beside r w9 w10 := (Beside.of (show Below w9.heap.size w9 _ from (by repeat (first | with_reducible exact Below.refl _ _ | with_reducible refine Below.setCell ?_ (by first | omega | (simp; done) | (simp; omega)) _ | with_reducible refine bDrewN ?_ _ | with_reducible refine Below.drew ?_ | with_reducible refine Below.alloc ?_ (by first | omega | (simp; done) | (simp; omega)) _)))).trans b_
        replace Hq : Hid (Blk w10 gq [.int .i64 0, .int .i64 0, .int .i64 0, .int .i64 0]) := Hq.out.beside bb (by omega)
        replace Hd : Hid (Blk w10 gd [.int .i64 x0, .int .i64 x1, .int .i64 x2, .int .i64 x3]) := Hd.out.beside bb (by omega)
        replace Ha : Hid (Lst ba 33 3 w10 u10 k U) := Ha.out.beside bb (by omega)
        replace Za : Hid (ba ≤ w10.heap.size) := Nat.le_trans Za.out bb.2.2.2.1
        replace HK : Hid (Beside r w6 w10) := HK.out.trans bb
        replace HB : Hid (Below w.heap.size w w10) := HB.out.trans (bb.below (by omega) HB.out.size)
        replace HR : Hid (Rd w10 r s n c pz) := R_
        clear R_
        clear bb b_ sz_ zr_ Hq_z Hd_z
        have z3 : z ≤ 1 := by omega
        clear z1 z2
        go_wp2_with fail
        go_loopw [10] (fun v wr => ∃ (j : Nat) (U : Nat → Int), (j : Int) ≤ 500 + z ∧ Hid (Rd wr r s n c pz) ∧ Hid (Below w.heap.size w wr) ∧ Hid (Blk wr gq [.int .i64 0, .int .i64 0, .int .i64 0, .int .i64 0]) ∧ Hid (Blk wr gd [.int .i64 x0, .int .i64 x1, .int .i64 x2, .int .i64 x3]) ∧ Hid (Lst ba 33 3 wr v j U) ∧ Hid (ba ≤ wr.heap.size) ∧ Hid (Beside r w6 wr)) (fun v _ => ((500 + z) - (lenL v : Int)).toNat)
        case atStart => exact ⟨k, U, by omega, HR, HB, Hq, Hd, Ha, Za, HK⟩
        case round =>
          clear HR HB Hq Hd Ha Za HK
          obtain ⟨j, U2, hj, HR, HB, Hq, Hd, Ha, Za, HK⟩ := hrel
          obtain ⟨t1, cap1, eu⟩ := Ha.out.form
          subst eu
          by_cases hlt : (j : Int) < 500 + z
          case pos =>
            have zl_ : ba ≤ wr.heap.size := Za.out
            go_wp2_with (at_builtin; refine list_Water ba (.slice t1 j cap1) j U2 (.tmp 47) (.tmp 49) (by rfl) (by rfl) (by rfl) (by rfl) Ha.out (by omega) (by omega) ?_; intro g9 cap9 w11 l9 b9)
            have Na : Hid (Lst ba 33 3 w11 (.slice (some ⟨g9, 0, none⟩) (j + 1) cap9) (j + 1) (putL U2 3 j [5, 3, 40])) := l9
            clear zl_ l9
            replace Hq : Hid (Blk w11 gq [.int .i64 0, .int .i64 0, .int .i64 0, .int .i64 0]) := Hq.out.belowB b9 (by omega)
            replace Hd : Hid (Blk w11 gd [.int .i64 x0, .int .i64 x1, .int .i64 x2, .int .i64 x3]) := Hd.out.belowB b9 (by omega)
            replace Za : Hid (ba ≤ w11.heap.size) := Nat.le_trans Za.out b9.size
            replace HK : Hid (Beside r w6 w11) := HK.out.onB (b9.mono (by omega))
            replace HR : Hid (Rd w11 r s n c pz) := Rd.below' HR.out (b9.mono (by omega))
            replace HB : Hid (Below w.heap.size w w11) := HB.out.trans (b9.mono (by omega))
            replace Ha := Na
            clear b9
            go_roundw
            case rel => exact ⟨j + 1, _, by omega, HR, HB, Hq, Hd, Ha, Za, HK⟩
            case measure => simp [lenL]; omega
          case neg =>
            obtain ⟨z_d, f_d, c_d⟩ := Hd.out
            have dc0 : wr.cell? ⟨gd, 0, none⟩ = some (.int .i64 x0) := c_d 0 _ rfl
            have dc1 : wr.cell? ⟨gd, 1, none⟩ = some (.int .i64 x1) := c_d 1 _ rfl
            have dc2 : wr.cell? ⟨gd, 2, none⟩ = some (.int .i64 x2) := c_d 2 _ rfl
            have dc3 : wr.cell? ⟨gd, 3, none⟩ = some (.int .i64 x3) := c_d 3 _ rfl
            have fd := f_d
            clear f_d c_d
            obtain ⟨z_q, f_q, c_q⟩ := Hq.out
            have qc0 : wr.cell? ⟨gq, 0, none⟩ = some (.int .i64 0) := c_q 0 _ rfl
            have qc1 : wr.cell? ⟨gq, 1, none⟩ = some (.int .i64 0) := c_q 1 _ rfl
            have qc2 : wr.cell? ⟨gq, 2, none⟩ = some (.int .i64 0) := c_q 2 _ rfl
            have qc3 : wr.cell? ⟨gq, 3, none⟩ = some (.int .i64 0) := c_q 3 _ rfl
            have fq := f_q
            clear f_q c_q
            have fq0 := fq 0
            have fq1 := fq 1
            have fq2 := fq 2
            have fq3 := fq 3
            have n_ : gd ≠ gq := by omega
            have BF := HB.out
            have sBF := BF.size
            have zWr : w5.heap.size ≤ w5.heap.size := Nat.le_refl _
            have OWF : Hid (OwnI w5.heap.size wr tr (mr * 2) Ur) := ownB_beside HW.out HK.out (by omega)
            clear HW HK
            go_wp2
            have LF := ((((Ha.out.beside (Beside.setCell gq _ 0 (.int .i64 x0)) (by omega)).beside (Beside.setCell gq _ 1 (.int .i64 x1)) (by omega)).beside (Beside.setCell gq _ 2 (.int .i64 x2)) (by omega)).beside (Beside.setCell gq _ 3 (.int .i64 x3)) (by omega))
            have WF := (ownB_beside (ownB_beside (ownB_beside (ownB_beside OWF.out (Beside.setCell gq _ 0 (.int .i64 x0)) (by omega)) (Beside.setCell gq _ 1 (.int .i64 x1)) (by omega)) (Beside.setCell gq _ 2 (.int .i64 x2)) (by omega)) (Beside.setCell gq _ 3 (.int .i64 x3)) (by omega))
            obtain ⟨t2, cap2, ev2, oa2⟩ := LF.own
            cases ev2
            refine bodyPost_ret (v := .tuple #[.agg #[.int .i64 x0, .int .i64 x1, .int .i64 x2, .int .i64 x3], .int .i64 full, .slice tr mr capr, .slice t1 j cap1]) (by simp [results, Try.results7, go_sem, dc0, dc1, dc2, dc3, qc0, qc1, qc2, qc3, n_, n_.symm]) rfl ?_
            unfold BsnPost
            exact ⟨x0, x1, x2, x3, full, tr, mr, capr, Ur, t1, j, cap1, U2, rfl, by omega, WF.row, by omega, oa2.row, (by repeat (first | with_reducible exact Below.refl _ _ | with_reducible exact BF | with_reducible refine Below.setCell ?_ (by first | omega | (simp; done) | (simp; omega)) _ | with_reducible refine bDrewN ?_ _ | with_reducible refine Below.drew ?_ | with_reducible refine Below.alloc ?_ (by first | omega | (simp; done) | (simp; omega)) _))⟩
end Go.Proofs.Ytiamhpopgnblcaa
