/-
What is proved: a drum, a level, fires and draws that are drawn from a code: any int64s.
-/
import Derived.Test.YtigcbgiakijloaaDmD
import Derived.Test.YtigcbgiakijloaaSiz
import Derived.Test.YtigcbgiakijloaaRdC
import Derived.Test.YtigcbgiakijloaaLsTwo
import Derived.Deep.RegionHeld3
import Derived.Deep.DeepCutAuto
import Derived.RegionTactic
namespace Go.Proofs.Ytigcbgiakijloaa
set_option maxRecDepth 40000
open Go.ChangeShapes Go.WideShapes Go.ChangeAt Go.RowKit
set_option linter.unusedVariables false
set_option linter.unusedSimpArgs false

theorem pick3 {jn : Nat} (h : jn < 3) : ∃ mo : Int, (#[Value.int .i64 50, Value.int .i64 5000, Value.int .i64 1000000000000] : Array Value)[jn]? = some (.int .i64 mo) ∧ 50 ≤ mo ∧ mo ≤ 1000000000000 := by
  have : jn = 0 ∨ jn = 1 ∨ jn = 2 := by omega
  rcases this with rfl | rfl | rfl
  · exact ⟨50, rfl, by omega, by omega⟩
  · exact ⟨5000, rfl, by omega, by omega⟩
  · exact ⟨1000000000000, rfl, by omega, by omega⟩
def CtlPost (w : World) (e : Ending) (w' : World) : Prop := ∃ (x0 x1 x2 x3 x4 x5 x6 L : Int) (tf : Option Addr) (mf cf : Nat) (U : Nat → Int) (te : Option Addr) (me ce : Nat) (U2 : Nat → Int), e = .returned (.tuple #[.agg #[.int .i64 x0, .int .i64 x1, .int .i64 x2, .int .i64 x3, .int .i64 x4, .int .i64 x5, .int .i64 x6], .int .i64 L, .slice tf mf cf, .slice te me ce]) ∧ mf ≤ 40 ∧ me ≤ 40 ∧ RowI w' tf mf U ∧ RowI w' te me U2 ∧ Below w.heap.size w w'
set_option maxRecDepth 20000 in
set_option maxHeartbeats 8000000 in
theorem drawControlled_any {s : Option Addr} {n c : Nat} {w : World} (h : Hid (Code8 w s n)) :
    Calls Try.prog 12 #[.slice s n c] w fun e w' => CtlPost w e w' := by
  go_enter Try.func12, Try.ntmps12
  go_wp2_with fail
  refine (open_any (h.out.below (by repeat (first | with_reducible exact Below.refl _ _ | with_reducible refine Below.setCell ?_ (by first | omega | (simp; done) | (simp; omega)) _ | with_reducible refine bDrewN ?_ _ | with_reducible refine Below.drew ?_ | with_reducible refine Below.alloc ?_ (by first | omega | (simp; done) | (simp; omega)) _)))).mono ?_
  rintro e w1 ⟨rfl, R_, b_⟩
  obtain ⟨r, hr⟩ : ∃ r, r = w.heap.size + 1 := ⟨_, rfl⟩
  have HR : Hid (Rd w1 r s n c 0) := by show Rd _ _ _ _ _ _; rw [hr]; simpa using R_
  have HB : Hid (Below w.heap.size w w1) := (show Below w.heap.size w _ from (by repeat (first | with_reducible exact Below.refl _ _ | with_reducible refine Below.setCell ?_ (by first | omega | (simp; done) | (simp; omega)) _ | with_reducible refine bDrewN ?_ _ | with_reducible refine Below.drew ?_ | with_reducible refine Below.alloc ?_ (by first | omega | (simp; done) | (simp; omega)) _))).trans (b_.mono (by first | omega | (simp; done) | (simp; omega)))
  obtain ⟨gq, hgq⟩ : ∃ g, g = w.heap.size := ⟨_, rfl⟩
  have Hq : Hid (Blk w1 gq [.int .i64 0, .int .i64 0, .int .i64 0, .int .i64 0, .int .i64 0, .int .i64 0, .int .i64 0]) := by
    show Blk _ _ _
    have q := ((Blk.new w #[.int .i64 0, .int .i64 0, .int .i64 0, .int .i64 0, .int .i64 0, .int .i64 0, .int .i64 0] 25)).below b_
    rw [hgq]; exact q
  have lgq : w.heap.size ≤ gq := by omega
  have rgq : gq < r := by omega
  have zr : w.heap.size ≤ r := by omega
  try rw [show (w.alloc (.cells #[.int .i64 0, .int .i64 0, .int .i64 0, .int .i64 0, .int .i64 0, .int .i64 0, .int .i64 0] 25)).heap.size = r by rw [hr]; simp]
  try rw [← hr]
  try rw [← hgq]
  clear hgq
  clear R_ b_ h hr
  go_wp2_with fail
  refine (drum_any (HR.out.below (by repeat (first | with_reducible exact Below.refl _ _ | with_reducible refine Below.setCell ?_ (by first | omega | (simp; done) | (simp; omega)) _ | with_reducible refine bDrewN ?_ _ | with_reducible refine Below.drew ?_ | with_reducible refine Below.alloc ?_ (by first | omega | (simp; done) | (simp; omega)) _)))).mono ?_
  rintro e w2 ⟨x0, x1, x2, x3, x4, x5, x6, pd, rfl, R_, b_⟩
  have Hq_z : gq < w1.heap.size := Hq.out.1
  have sz_ : w.heap.size ≤ w1.heap.size := HB.out.size
  have zr_ : r < w1.heap.size := HR.out.1
  have bb : Beside r w1 w2 := (Beside.of (show Below w1.heap.size w1 _ from (by repeat (first | with_reducible exact Below.refl _ _ | with_reducible refine Below.setCell ?_ (by first | omega | (simp; done) | (simp; omega)) _ | with_reducible refine bDrewN ?_ _ | with_reducible refine Below.drew ?_ | with_reducible refine Below.alloc ?_ (by first | omega | (simp; done) | (simp; omega)) _)))).trans b_
  replace Hq : Hid (Blk w2 gq [.int .i64 0, .int .i64 0, .int .i64 0, .int .i64 0, .int .i64 0, .int .i64 0, .int .i64 0]) := Hq.out.beside bb (by omega)
  replace HB : Hid (Below w.heap.size w w2) := HB.out.trans (bb.below (by omega) HB.out.size)
  replace HR : Hid (Rd w2 r s n c pd) := R_
  clear R_
  clear bb b_ sz_ zr_ Hq_z
  go_upto_region 3 with fail
  have Hq_z : gq < w2.heap.size := Hq.out.1
  have sz_ : w.heap.size ≤ w2.heap.size := HB.out.size
  have zr_ : r < w2.heap.size := HR.out.1
  obtain ⟨w3, hw_⟩ : ∃ x_, x_ = (w2.alloc (.cells #[.int .i64 x0, .int .i64 x1, .int .i64 x2, .int .i64 x3, .int .i64 x4, .int .i64 x5, .int .i64 x6] 25)) := ⟨_, rfl⟩
  rw [← hw_]
  replace Hq : Hid (Blk w3 gq [.int .i64 0, .int .i64 0, .int .i64 0, .int .i64 0, .int .i64 0, .int .i64 0, .int .i64 0]) := by show Blk _ _ _; rw [hw_]; exact (Hq.out.below (below0 _ _))
  obtain ⟨gd, hgd⟩ : ∃ g, g = w2.heap.size := ⟨_, rfl⟩
  have Hd : Hid (Blk w3 gd [.int .i64 x0, .int .i64 x1, .int .i64 x2, .int .i64 x3, .int .i64 x4, .int .i64 x5, .int .i64 x6]) := by show Blk _ _ _; rw [hw_, hgd]; have q := (Blk.new w2 #[.int .i64 x0, .int .i64 x1, .int .i64 x2, .int .i64 x3, .int .i64 x4, .int .i64 x5, .int .i64 x6] 25); first | exact q | exact (by simpa using q)
  replace HR : Hid (Rd w3 r s n c pd) := by show Rd _ _ _ _ _ _; rw [hw_]; exact Rd.below' HR.out (show Below (r + 1) w2 _ from (by repeat (first | with_reducible exact Below.refl _ _ | with_reducible refine Below.setCell ?_ (by first | omega | (simp; done) | (simp; omega)) _ | with_reducible refine bDrewN ?_ _ | with_reducible refine Below.drew ?_ | with_reducible refine Below.alloc ?_ (by first | omega | (simp; done) | (simp; omega)) _)))
  replace HB : Hid (Below w.heap.size w w3) := by show Below _ _ _; rw [hw_]; exact HB.out.trans (show Below w.heap.size w2 _ from (by repeat (first | with_reducible exact Below.refl _ _ | with_reducible refine Below.setCell ?_ (by first | omega | (simp; done) | (simp; omega)) _ | with_reducible refine bDrewN ?_ _ | with_reducible refine Below.drew ?_ | with_reducible refine Below.alloc ?_ (by first | omega | (simp; done) | (simp; omega)) _)))
  clear hw_
  have lgd : w.heap.size ≤ gd := by omega
  have rgd : r < gd := by omega
  have dgqgd : gq < gd := by omega
  try rw [← hgd]
  clear hgd
  clear sz_ zr_ Hq_z
  go_upto_region 4 with fail
  have Hq_z : gq < w3.heap.size := Hq.out.1
  have Hd_z : gd < w3.heap.size := Hd.out.1
  have sz_ : w.heap.size ≤ w3.heap.size := HB.out.size
  have zr_ : r < w3.heap.size := HR.out.1
  obtain ⟨w4, hw_⟩ : ∃ x_, x_ = w3.alloc (.cells #[] 2) := ⟨_, rfl⟩
  rw [← hw_]
  have bl_ : Below w3.heap.size w3 w4 := by rw [hw_]; exact below0 _ _
  obtain ⟨bf, hbf⟩ : ∃ g, g = w3.heap.size := ⟨_, rfl⟩
  have Hf : Hid (Lst bf 2 1 w4 (.slice (some ⟨bf, 0, none⟩) 0 0) 0 (fun _ => 0)) := by show Lst _ _ _ _ _ _ _; rw [hw_, hbf]; exact Lst.lit w3 _ 2 2 1 _ (Nat.le_refl _)
  replace Hq : Hid (Blk w4 gq [.int .i64 0, .int .i64 0, .int .i64 0, .int .i64 0, .int .i64 0, .int .i64 0, .int .i64 0]) := Hq.out.below bl_
  replace Hd : Hid (Blk w4 gd [.int .i64 x0, .int .i64 x1, .int .i64 x2, .int .i64 x3, .int .i64 x4, .int .i64 x5, .int .i64 x6]) := Hd.out.below bl_
  replace HR : Hid (Rd w4 r s n c pd) := HR.out.below bl_
  replace HB : Hid (Below w.heap.size w w4) := HB.out.trans (bl_.mono sz_)
  have lbf : w.heap.size ≤ bf := by omega
  have rbf : r < bf := by omega
  have dgqbf : gq < bf := by omega
  have dgdbf : gd < bf := by omega
  have zsf : bf < w4.heap.size := by rw [hw_, hbf]; simp
  have Zf : Hid (bf ≤ w4.heap.size) := by show _ ≤ _; have := bl_.size; omega
  try rw [← hbf]
  clear hw_ hbf bl_ sz_ zr_ Hq_z Hd_z
  go_upto_region 5 with fail
  have Hq_z : gq < w4.heap.size := Hq.out.1
  have Hd_z : gd < w4.heap.size := Hd.out.1
  have sz_ : w.heap.size ≤ w4.heap.size := HB.out.size
  have zr_ : r < w4.heap.size := HR.out.1
  obtain ⟨w5, hw_⟩ : ∃ x_, x_ = w4.alloc (.cells #[] 2) := ⟨_, rfl⟩
  rw [← hw_]
  have bl_ : Below w4.heap.size w4 w5 := by rw [hw_]; exact below0 _ _
  obtain ⟨be, hbe⟩ : ∃ g, g = w4.heap.size := ⟨_, rfl⟩
  have He : Hid (Lst be 2 1 w5 (.slice (some ⟨be, 0, none⟩) 0 0) 0 (fun _ => 0)) := by show Lst _ _ _ _ _ _ _; rw [hw_, hbe]; exact Lst.lit w4 _ 2 2 1 _ (Nat.le_refl _)
  replace Hq : Hid (Blk w5 gq [.int .i64 0, .int .i64 0, .int .i64 0, .int .i64 0, .int .i64 0, .int .i64 0, .int .i64 0]) := Hq.out.below bl_
  replace Hd : Hid (Blk w5 gd [.int .i64 x0, .int .i64 x1, .int .i64 x2, .int .i64 x3, .int .i64 x4, .int .i64 x5, .int .i64 x6]) := Hd.out.below bl_
  replace Hf : Hid (Lst bf 2 1 w5 (.slice (some ⟨bf, 0, none⟩) 0 0) 0 (fun _ => 0)) := Hf.out.below bl_
  replace Zf : Hid (bf ≤ w5.heap.size) := Nat.le_trans Zf.out bl_.size
  replace HR : Hid (Rd w5 r s n c pd) := HR.out.below bl_
  replace HB : Hid (Below w.heap.size w w5) := HB.out.trans (bl_.mono sz_)
  have lbe : w.heap.size ≤ be := by omega
  have rbe : r < be := by omega
  have dgqbe : gq < be := by omega
  have dgdbe : gd < be := by omega
  have dbfbe : bf < be := by have := zsf; omega
  have zse : be < w5.heap.size := by rw [hw_, hbe]; simp
  have Ze : Hid (be ≤ w5.heap.size) := by show _ ≤ _; have := bl_.size; omega
  try rw [← hbe]
  clear hw_ hbe bl_ sz_ zr_ Hq_z Hd_z
  go_wp2_with fail
  refine (size_any 6 30 (by omega) (by omega) (by omega) (by omega) (HR.out.below (by repeat (first | with_reducible exact Below.refl _ _ | with_reducible refine Below.setCell ?_ (by first | omega | (simp; done) | (simp; omega)) _ | with_reducible refine bDrewN ?_ _ | with_reducible refine Below.drew ?_ | with_reducible refine Below.alloc ?_ (by first | omega | (simp; done) | (simp; omega)) _)))).mono ?_
  rintro e w6 ⟨N, pN, rfl, N0, N1, R_, b_⟩
  have Hq_z : gq < w5.heap.size := Hq.out.1
  have Hd_z : gd < w5.heap.size := Hd.out.1
  have sz_ : w.heap.size ≤ w5.heap.size := HB.out.size
  have zr_ : r < w5.heap.size := HR.out.1
  have bb : Beside r w5 w6 := (Beside.of (show Below w5.heap.size w5 _ from (by repeat (first | with_reducible exact Below.refl _ _ | with_reducible refine Below.setCell ?_ (by first | omega | (simp; done) | (simp; omega)) _ | with_reducible refine bDrewN ?_ _ | with_reducible refine Below.drew ?_ | with_reducible refine Below.alloc ?_ (by first | omega | (simp; done) | (simp; omega)) _)))).trans b_
  replace Hq : Hid (Blk w6 gq [.int .i64 0, .int .i64 0, .int .i64 0, .int .i64 0, .int .i64 0, .int .i64 0, .int .i64 0]) := Hq.out.beside bb (by omega)
  replace Hd : Hid (Blk w6 gd [.int .i64 x0, .int .i64 x1, .int .i64 x2, .int .i64 x3, .int .i64 x4, .int .i64 x5, .int .i64 x6]) := Hd.out.beside bb (by omega)
  replace Hf : Hid (Lst bf 2 1 w6 (.slice (some ⟨bf, 0, none⟩) 0 0) 0 (fun _ => 0)) := Hf.out.beside bb (by omega)
  replace Zf : Hid (bf ≤ w6.heap.size) := Nat.le_trans Zf.out bb.2.2.2.1
  replace He : Hid (Lst be 2 1 w6 (.slice (some ⟨be, 0, none⟩) 0 0) 0 (fun _ => 0)) := He.out.beside bb (by omega)
  replace Ze : Hid (be ≤ w6.heap.size) := Nat.le_trans Ze.out bb.2.2.2.1
  replace HB : Hid (Below w.heap.size w w6) := HB.out.trans (bb.below (by omega) HB.out.size)
  replace HR : Hid (Rd w6 r s n c pN) := R_
  clear R_
  clear bb b_ sz_ zr_ Hq_z Hd_z
  have HA : Hid (∀ g, Value.ownBlock (.slice (some ⟨bf, 0, none⟩) 0 0) = some g → Value.ownBlock (.slice (some ⟨be, 0, none⟩) 0 0) = some g → False) := fun g e1 e2 => by
    simp [Value.ownBlock] at e1 e2; omega
  go_wp2_with fail
  go_loopw [8, 9, 10] (fun v u i wr => ∃ (k : Nat) (U U2 : Nat → Int) (p5 : Nat), (k : Int) ≤ N ∧ i = .int .i64 (N - k) ∧ Hid (∀ g, v.ownBlock = some g → u.ownBlock = some g → False) ∧ Hid (Rd wr r s n c p5) ∧ Hid (Below w.heap.size w wr) ∧ Hid (Blk wr gq [.int .i64 0, .int .i64 0, .int .i64 0, .int .i64 0, .int .i64 0, .int .i64 0, .int .i64 0]) ∧ Hid (Blk wr gd [.int .i64 x0, .int .i64 x1, .int .i64 x2, .int .i64 x3, .int .i64 x4, .int .i64 x5, .int .i64 x6]) ∧ Hid (Lst bf 2 1 wr v k U) ∧ Hid (bf ≤ wr.heap.size) ∧ Hid (Lst be 2 1 wr u k U2) ∧ Hid (be ≤ wr.heap.size)) (fun _ _ i _ => (intOf i).toNat)
  case atStart => exact ⟨0, fun _ => 0, fun _ => 0, pN, by omega, by simp, HA, HR, HB, Hq, Hd, Hf, Zf, He, Ze⟩
  case round =>
    clear HR HB Hq Hd Hf Zf He Ze
    clear HA
    obtain ⟨k, U, U2, p5, hk, rfl, HA, HR, HB, Hq, Hd, Hf, Zf, He, Ze⟩ := hrel
    by_cases hlt : (k : Int) < N
    case pos =>
      have q0 : 0 < N - (k : Int) := by omega
      go_wp2_with fail
      refine (act_any (HR.out.below (by repeat (first | with_reducible exact Below.refl _ _ | with_reducible refine Below.setCell ?_ (by first | omega | (simp; done) | (simp; omega)) _ | with_reducible refine bDrewN ?_ _ | with_reducible refine Below.drew ?_ | with_reducible refine Below.alloc ?_ (by first | omega | (simp; done) | (simp; omega)) _)))).mono ?_
      rintro e w7 ⟨a0, a1, a2, pa, rfl, R_, b_⟩
      have Hq_z : gq < wr.heap.size := Hq.out.1
      have Hd_z : gd < wr.heap.size := Hd.out.1
      have sz_ : w.heap.size ≤ wr.heap.size := HB.out.size
      have zr_ : r < wr.heap.size := HR.out.1
      have bb : Beside r wr w7 := (Beside.of (show Below wr.heap.size wr _ from (by repeat (first | with_reducible exact Below.refl _ _ | with_reducible refine Below.setCell ?_ (by first | omega | (simp; done) | (simp; omega)) _ | with_reducible refine bDrewN ?_ _ | with_reducible refine Below.drew ?_ | with_reducible refine Below.alloc ?_ (by first | omega | (simp; done) | (simp; omega)) _)))).trans b_
      replace Hq : Hid (Blk w7 gq [.int .i64 0, .int .i64 0, .int .i64 0, .int .i64 0, .int .i64 0, .int .i64 0, .int .i64 0]) := Hq.out.beside bb (by omega)
      replace Hd : Hid (Blk w7 gd [.int .i64 x0, .int .i64 x1, .int .i64 x2, .int .i64 x3, .int .i64 x4, .int .i64 x5, .int .i64 x6]) := Hd.out.beside bb (by omega)
      replace Hf : Hid (Lst bf 2 1 w7 u8 k U) := Hf.out.beside bb (by omega)
      replace Zf : Hid (bf ≤ w7.heap.size) := Nat.le_trans Zf.out bb.2.2.2.1
      replace He : Hid (Lst be 2 1 w7 u9 k U2) := He.out.beside bb (by omega)
      replace Ze : Hid (be ≤ w7.heap.size) := Nat.le_trans Ze.out bb.2.2.2.1
      replace HB : Hid (Below w.heap.size w w7) := HB.out.trans (bb.below (by omega) HB.out.size)
      replace HR : Hid (Rd w7 r s n c pa) := R_
      clear R_
      clear bb b_ sz_ zr_ Hq_z Hd_z
      have Qf0 : ∀ g, Value.ownBlock u8 = some g → g < w7.heap.size := fun g e => (Hf.out.lt g e).2
      have Qe0 : ∀ g, Value.ownBlock u9 = some g → g < w7.heap.size := fun g e => (He.out.lt g e).2
      go_upto_region 9 with fail
      have Hq_z : gq < w7.heap.size := Hq.out.1
      have Hd_z : gd < w7.heap.size := Hd.out.1
      obtain ⟨w8, hw_⟩ : ∃ x_, x_ = w7.alloc (.cells #[.int .i64 a0, .int .i64 a1, .int .i64 a2] 37) := ⟨_, rfl⟩
      rw [← hw_]
      have bl_ : Below w7.heap.size w7 w8 := by rw [hw_]; exact below0 _ _
      obtain ⟨ga, hga⟩ : ∃ g, g = w7.heap.size := ⟨_, rfl⟩
      have Ha : Hid (Blk w8 ga [.int .i64 a0, .int .i64 a1, .int .i64 a2]) := by show Blk _ _ _; rw [hw_, hga]; exact Blk.new w7 #[.int .i64 a0, .int .i64 a1, .int .i64 a2] _
      have Qf : Hid (Value.ownBlock u8 ≠ some ga) := fun e => by have := Qf0 ga e; omega
      have Qe : Hid (Value.ownBlock u9 ≠ some ga) := fun e => by have := Qe0 ga e; omega
      replace Hq : Hid (Blk w8 gq [.int .i64 0, .int .i64 0, .int .i64 0, .int .i64 0, .int .i64 0, .int .i64 0, .int .i64 0]) := Hq.out.below bl_
      replace Hd : Hid (Blk w8 gd [.int .i64 x0, .int .i64 x1, .int .i64 x2, .int .i64 x3, .int .i64 x4, .int .i64 x5, .int .i64 x6]) := Hd.out.below bl_
      replace Hf : Hid (Lst bf 2 1 w8 u8 k U) := Hf.out.below bl_
      replace Zf : Hid (bf ≤ w8.heap.size) := Nat.le_trans Zf.out bl_.size
      replace He : Hid (Lst be 2 1 w8 u9 k U2) := He.out.below bl_
      replace Ze : Hid (be ≤ w8.heap.size) := Nat.le_trans Ze.out bl_.size
      replace HR : Hid (Rd w8 r s n c pa) := HR.out.below bl_
      replace HB : Hid (Below w.heap.size w w8) := HB.out.trans (bl_.mono HB.out.size)
      rw [← hga]
      clear hw_ hga bl_ Qf0 Qe0 Hq_z Hd_z
      obtain ⟨z_a, f_a, c_a⟩ := Ha.out
      have ac0 : w8.cell? ⟨ga, 0, none⟩ = some (.int .i64 a0) := c_a 0 _ rfl
      have ac1 : w8.cell? ⟨ga, 1, none⟩ = some (.int .i64 a1) := c_a 1 _ rfl
      have ac2 : w8.cell? ⟨ga, 2, none⟩ = some (.int .i64 a2) := c_a 2 _ rfl
      have fa := f_a
      clear f_a c_a
      go_upto_region 10 with (at_builtin; refine list_two bf u8 k U (.tmp 26) (.tmp 29) (by rfl) (by rfl) (by rfl) (by rfl) Hf.out (by omega) Zf.out ?_; intro gf9 cf9 w9 l9 b9 far9 at9)
      have Nf : Hid (Lst bf 2 1 w9 (.slice (some ⟨gf9, 0, none⟩) (k + 1) cf9) (k + 1) (putL U 1 k [a1])) := l9
      replace Hq : Hid (Blk w9 gq [.int .i64 0, .int .i64 0, .int .i64 0, .int .i64 0, .int .i64 0, .int .i64 0, .int .i64 0]) := Hq.out.belowB b9 (by omega)
      replace Hd : Hid (Blk w9 gd [.int .i64 x0, .int .i64 x1, .int .i64 x2, .int .i64 x3, .int .i64 x4, .int .i64 x5, .int .i64 x6]) := Hd.out.belowB b9 (by omega)
      replace Ha : Hid (Blk w9 ga [.int .i64 a0, .int .i64 a1, .int .i64 a2]) := Ha.out.far far9 b9.size Qf.out
      have ND : Hid (∀ q, Value.ownBlock (.slice (some ⟨gf9, 0, none⟩) (k + 1) cf9) = some q → Value.ownBlock u9 = some q → False) := fun q e1 e2 => by
        have e : gf9 = q := by simpa [Value.ownBlock] using e1
        subst e
        rcases at9 with z | z
        · exact HA.out _ z e2
        · have := (He.out.lt _ e2).2; omega
      replace He : Hid (Lst be 2 1 w9 u9 k U2) := He.out.far far9 HA.out
      replace Zf : Hid (bf ≤ w9.heap.size) := Nat.le_trans Zf.out b9.size
      replace Ze : Hid (be ≤ w9.heap.size) := Nat.le_trans Ze.out b9.size
      replace HR : Hid (Rd w9 r s n c pa) := Rd.below' HR.out (b9.mono (by omega))
      replace HB : Hid (Below w.heap.size w w9) := HB.out.trans (b9.mono (by omega))
      replace Hf := Nf
      replace HA : Hid (∀ g, Value.ownBlock (.slice (some ⟨gf9, 0, none⟩) (k + 1) cf9) = some g → Value.ownBlock u9 = some g → False) := ND
      clear Nf ND l9 b9 far9 at9
      clear ac0 ac1 ac2 z_a fa
      obtain ⟨z_a, f_a, c_a⟩ := Ha.out
      have ac0 : w9.cell? ⟨ga, 0, none⟩ = some (.int .i64 a0) := c_a 0 _ rfl
      have ac1 : w9.cell? ⟨ga, 1, none⟩ = some (.int .i64 a1) := c_a 1 _ rfl
      have ac2 : w9.cell? ⟨ga, 2, none⟩ = some (.int .i64 a2) := c_a 2 _ rfl
      have fa := f_a
      clear f_a c_a
      go_wp2_with (at_builtin; refine list_two be u9 k U2 (.tmp 31) (.tmp 34) (by rfl) (by rfl) (by rfl) (by rfl) He.out (by omega) Ze.out ?_; intro ge9 ce9 w10 l9 b9 far9 at9)
      have Ne : Hid (Lst be 2 1 w10 (.slice (some ⟨ge9, 0, none⟩) (k + 1) ce9) (k + 1) (putL U2 1 k [a2])) := l9
      replace Hq : Hid (Blk w10 gq [.int .i64 0, .int .i64 0, .int .i64 0, .int .i64 0, .int .i64 0, .int .i64 0, .int .i64 0]) := Hq.out.belowB b9 (by omega)
      replace Hd : Hid (Blk w10 gd [.int .i64 x0, .int .i64 x1, .int .i64 x2, .int .i64 x3, .int .i64 x4, .int .i64 x5, .int .i64 x6]) := Hd.out.belowB b9 (by omega)
      replace Ha : Hid (Blk w10 ga [.int .i64 a0, .int .i64 a1, .int .i64 a2]) := Ha.out.far far9 b9.size Qe.out
      have ND : Hid (∀ q, Value.ownBlock (.slice (some ⟨ge9, 0, none⟩) (k + 1) ce9) = some q → Value.ownBlock (.slice (some ⟨gf9, 0, none⟩) (k + 1) cf9) = some q → False) := fun q e1 e2 => by
        have e : ge9 = q := by simpa [Value.ownBlock] using e1
        subst e
        rcases at9 with z | z
        · exact (fun g a b => HA.out g b a) _ z e2
        · have := (Hf.out.lt _ e2).2; omega
      replace Hf : Hid (Lst bf 2 1 w10 (.slice (some ⟨gf9, 0, none⟩) (k + 1) cf9) (k + 1) (putL U 1 k [a1])) := Hf.out.far far9 (fun g a b => HA.out g b a)
      replace Zf : Hid (bf ≤ w10.heap.size) := Nat.le_trans Zf.out b9.size
      replace Ze : Hid (be ≤ w10.heap.size) := Nat.le_trans Ze.out b9.size
      replace HR : Hid (Rd w10 r s n c pa) := Rd.below' HR.out (b9.mono (by omega))
      replace HB : Hid (Below w.heap.size w w10) := HB.out.trans (b9.mono (by omega))
      replace He := Ne
      replace HA : Hid (∀ g, Value.ownBlock (.slice (some ⟨gf9, 0, none⟩) (k + 1) cf9) = some g → Value.ownBlock (.slice (some ⟨ge9, 0, none⟩) (k + 1) ce9) = some g → False) := (fun g a b => ND.out g b a)
      clear Ne ND l9 b9 far9 at9
      clear ac0 ac1 ac2 z_a fa
      clear Ha Qf Qe
      go_roundw
      case rel => exact ⟨k + 1, _, _, pa, by omega, by congr 1; omega, HA, HR, HB, Hq, Hd, Hf, Zf, He, Ze⟩
      case measure => simp [intOf]; omega
    case neg =>
      obtain rfl : (k : Int) = N := by omega
      rename World => wl
      go_wp2_with fail
      refine (once_any 20 (by omega) (by omega) (HR.out.below (by repeat (first | with_reducible exact Below.refl _ _ | with_reducible refine Below.setCell ?_ (by first | omega | (simp; done) | (simp; omega)) _ | with_reducible refine bDrewN ?_ _ | with_reducible refine Below.drew ?_ | with_reducible refine Below.alloc ?_ (by first | omega | (simp; done) | (simp; omega)) _)))).mono ?_
      rintro e w7 ⟨fl, pf, rfl, R_, b_⟩
      have Hq_z : gq < wl.heap.size := Hq.out.1
      have Hd_z : gd < wl.heap.size := Hd.out.1
      have sz_ : w.heap.size ≤ wl.heap.size := HB.out.size
      have zr_ : r < wl.heap.size := HR.out.1
      have bb : Beside r wl w7 := (Beside.of (show Below wl.heap.size wl _ from (by repeat (first | with_reducible exact Below.refl _ _ | with_reducible refine Below.setCell ?_ (by first | omega | (simp; done) | (simp; omega)) _ | with_reducible refine bDrewN ?_ _ | with_reducible refine Below.drew ?_ | with_reducible refine Below.alloc ?_ (by first | omega | (simp; done) | (simp; omega)) _)))).trans b_
      replace Hq : Hid (Blk w7 gq [.int .i64 0, .int .i64 0, .int .i64 0, .int .i64 0, .int .i64 0, .int .i64 0, .int .i64 0]) := Hq.out.beside bb (by omega)
      replace Hd : Hid (Blk w7 gd [.int .i64 x0, .int .i64 x1, .int .i64 x2, .int .i64 x3, .int .i64 x4, .int .i64 x5, .int .i64 x6]) := Hd.out.beside bb (by omega)
      replace Hf : Hid (Lst bf 2 1 w7 u8 k U) := Hf.out.beside bb (by omega)
      replace Zf : Hid (bf ≤ w7.heap.size) := Nat.le_trans Zf.out bb.2.2.2.1
      replace He : Hid (Lst be 2 1 w7 u9 k U2) := He.out.beside bb (by omega)
      replace Ze : Hid (be ≤ w7.heap.size) := Nat.le_trans Ze.out bb.2.2.2.1
      replace HB : Hid (Below w.heap.size w w7) := HB.out.trans (bb.below (by omega) HB.out.size)
      replace HR : Hid (Rd w7 r s n c pf) := R_
      clear R_
      clear bb b_ sz_ zr_ Hq_z Hd_z
      have k31 : k ≤ 31 := by omega
      clear hk hlt N0 N1
      cases fl
      · skip
        obtain ⟨tf, cf, ef⟩ := Hf.out.form
        cases ef
        obtain ⟨te, ce, ee⟩ := He.out.form
        cases ee
        go_upto_region 13 with fail
        obtain ⟨z_d, f_d, c_d⟩ := Hd.out
        have dc0 : w7.cell? ⟨gd, 0, none⟩ = some (.int .i64 x0) := c_d 0 _ rfl
        have dc1 : w7.cell? ⟨gd, 1, none⟩ = some (.int .i64 x1) := c_d 1 _ rfl
        have dc2 : w7.cell? ⟨gd, 2, none⟩ = some (.int .i64 x2) := c_d 2 _ rfl
        have dc3 : w7.cell? ⟨gd, 3, none⟩ = some (.int .i64 x3) := c_d 3 _ rfl
        have dc4 : w7.cell? ⟨gd, 4, none⟩ = some (.int .i64 x4) := c_d 4 _ rfl
        have dc5 : w7.cell? ⟨gd, 5, none⟩ = some (.int .i64 x5) := c_d 5 _ rfl
        have dc6 : w7.cell? ⟨gd, 6, none⟩ = some (.int .i64 x6) := c_d 6 _ rfl
        have fd := f_d
        clear f_d c_d
        obtain ⟨z_q, f_q, c_q⟩ := Hq.out
        have qc0 : w7.cell? ⟨gq, 0, none⟩ = some (.int .i64 0) := c_q 0 _ rfl
        have qc1 : w7.cell? ⟨gq, 1, none⟩ = some (.int .i64 0) := c_q 1 _ rfl
        have qc2 : w7.cell? ⟨gq, 2, none⟩ = some (.int .i64 0) := c_q 2 _ rfl
        have qc3 : w7.cell? ⟨gq, 3, none⟩ = some (.int .i64 0) := c_q 3 _ rfl
        have qc4 : w7.cell? ⟨gq, 4, none⟩ = some (.int .i64 0) := c_q 4 _ rfl
        have qc5 : w7.cell? ⟨gq, 5, none⟩ = some (.int .i64 0) := c_q 5 _ rfl
        have qc6 : w7.cell? ⟨gq, 6, none⟩ = some (.int .i64 0) := c_q 6 _ rfl
        have fq := f_q
        clear f_q c_q
        have fq0 := fq 0
        have fq1 := fq 1
        have fq2 := fq 2
        have fq3 := fq 3
        have fq4 := fq 4
        have fq5 := fq 5
        have fq6 := fq 6
        have ndq : gd ≠ gq := by omega
        have nqd : gq ≠ gd := by omega
        have zr_ : r < w7.heap.size := HR.out.1
        go_region_with (first
          | (go_at_call 31; refine (below_any 3 (HR.out.below (by repeat (first | with_reducible exact Below.refl _ _ | with_reducible refine Below.setCell ?_ (by first | omega | (simp; done) | (simp; omega)) _ | with_reducible refine bDrewN ?_ _ | with_reducible refine Below.drew ?_ | with_reducible refine Below.alloc ?_ (by first | omega | (simp; done) | (simp; omega)) _)))).mono ?_; rintro e wq8 ⟨jj, p8, rfl, j0, j1, j2, R8, b8⟩; have j3 : jj < 3 := (by omega); obtain ⟨jn, ejn⟩ : ∃ jn : Nat, jj = (jn : Int) := ⟨jj.toNat, (by omega)⟩; subst ejn; obtain ⟨mo, hlit, mo0, mo1⟩ : ∃ mo : Int, (#[Value.int .i64 50, Value.int .i64 5000, Value.int .i64 1000000000000] : Array Value)[jn]? = some (.int .i64 mo) ∧ 50 ≤ mo ∧ mo ≤ 1000000000000 := pick3 (by omega); have bb8 : Beside r w7 wq8 := (Beside.of (show Below w7.heap.size w7 _ from (by repeat (first | with_reducible exact Below.refl _ _ | with_reducible refine Below.setCell ?_ (by first | omega | (simp; done) | (simp; omega)) _ | with_reducible refine bDrewN ?_ _ | with_reducible refine Below.drew ?_ | with_reducible refine Below.alloc ?_ (by first | omega | (simp; done) | (simp; omega)) _)))).trans b8; have HD8 : Hid (Blk wq8 gd [.int .i64 x0, .int .i64 x1, .int .i64 x2, .int .i64 x3, .int .i64 x4, .int .i64 x5, .int .i64 x6]) := Hd.out.beside bb8 (by omega); have HQ8 : Hid (Blk wq8 gq [.int .i64 0, .int .i64 0, .int .i64 0, .int .i64 0, .int .i64 0, .int .i64 0, .int .i64 0]) := Hq.out.beside bb8 (by omega); have HF8 : Hid (Lst bf 2 1 wq8 (.slice tf k cf) k U) := Hf.out.beside bb8 (by omega); have HE8 : Hid (Lst be 2 1 wq8 (.slice te k ce) k U2) := He.out.beside bb8 (by omega); have HBB8 : Hid (Below w.heap.size w wq8) := HB.out.trans (bb8.below (by omega) HB.out.size); have d80 : wq8.cell? ⟨gd, 0, none⟩ = some (.int .i64 x0) := HD8.out.2.2 0 _ rfl; have d81 : wq8.cell? ⟨gd, 1, none⟩ = some (.int .i64 x1) := HD8.out.2.2 1 _ rfl; have d82 : wq8.cell? ⟨gd, 2, none⟩ = some (.int .i64 x2) := HD8.out.2.2 2 _ rfl; have d83 : wq8.cell? ⟨gd, 3, none⟩ = some (.int .i64 x3) := HD8.out.2.2 3 _ rfl; have d84 : wq8.cell? ⟨gd, 4, none⟩ = some (.int .i64 x4) := HD8.out.2.2 4 _ rfl; have d85 : wq8.cell? ⟨gd, 5, none⟩ = some (.int .i64 x5) := HD8.out.2.2 5 _ rfl; have d86 : wq8.cell? ⟨gd, 6, none⟩ = some (.int .i64 x6) := HD8.out.2.2 6 _ rfl; have q80 : wq8.cell? ⟨gq, 0, none⟩ = some (.int .i64 0) := HQ8.out.2.2 0 _ rfl; have g80 : wq8.frozen? ⟨gq, 0, none⟩ = false := HQ8.out.2.1 0; have q81 : wq8.cell? ⟨gq, 1, none⟩ = some (.int .i64 0) := HQ8.out.2.2 1 _ rfl; have g81 : wq8.frozen? ⟨gq, 1, none⟩ = false := HQ8.out.2.1 1; have q82 : wq8.cell? ⟨gq, 2, none⟩ = some (.int .i64 0) := HQ8.out.2.2 2 _ rfl; have g82 : wq8.frozen? ⟨gq, 2, none⟩ = false := HQ8.out.2.1 2; have q83 : wq8.cell? ⟨gq, 3, none⟩ = some (.int .i64 0) := HQ8.out.2.2 3 _ rfl; have g83 : wq8.frozen? ⟨gq, 3, none⟩ = false := HQ8.out.2.1 3; have q84 : wq8.cell? ⟨gq, 4, none⟩ = some (.int .i64 0) := HQ8.out.2.2 4 _ rfl; have g84 : wq8.frozen? ⟨gq, 4, none⟩ = false := HQ8.out.2.1 4; have q85 : wq8.cell? ⟨gq, 5, none⟩ = some (.int .i64 0) := HQ8.out.2.2 5 _ rfl; have g85 : wq8.frozen? ⟨gq, 5, none⟩ = false := HQ8.out.2.1 5; have q86 : wq8.cell? ⟨gq, 6, none⟩ = some (.int .i64 0) := HQ8.out.2.2 6 _ rfl; have g86 : wq8.frozen? ⟨gq, 6, none⟩ = false := HQ8.out.2.1 6; have zq8 : gq < wq8.heap.size := HQ8.out.1; have zd8 : gd < wq8.heap.size := HD8.out.1; have HR8 : Hid (Rd wq8 r s n c p8) := R8; have zr8 : r < wq8.heap.size := HR8.out.1; (try (have l8 : wq8.cell? ⟨w7.heap.size, jn, none⟩ = some (.int .i64 mo) := (b8.cell (p := ⟨w7.heap.size, jn, none⟩) (by first | omega | (simp; done) | (simp; omega)) (by simp only; omega)).trans (by simp [go_sem, hlit]))); have z8 := bb8.2.2.2.1; clear bb8 b8 R8 j1 j2)
          | (go_at_call 34; refine (off_any 0 mo (by omega) (by omega) (by omega) (HR8.out.below (by repeat (first | with_reducible exact Below.refl _ _ | with_reducible refine Below.setCell ?_ (by first | omega | (simp; done) | (simp; omega)) _ | with_reducible refine bDrewN ?_ _ | with_reducible refine Below.drew ?_ | with_reducible refine Below.alloc ?_ (by first | omega | (simp; done) | (simp; omega)) _)))).mono ?_; rintro e wq9 ⟨lv, p9, rfl, lv0, R9, b9⟩; have bb9 : Beside r wq8 wq9 := (Beside.of (show Below wq8.heap.size wq8 _ from (by repeat (first | with_reducible exact Below.refl _ _ | with_reducible refine Below.setCell ?_ (by first | omega | (simp; done) | (simp; omega)) _ | with_reducible refine bDrewN ?_ _ | with_reducible refine Below.drew ?_ | with_reducible refine Below.alloc ?_ (by first | omega | (simp; done) | (simp; omega)) _)))).trans b9; have HD9 : Hid (Blk wq9 gd [.int .i64 x0, .int .i64 x1, .int .i64 x2, .int .i64 x3, .int .i64 x4, .int .i64 x5, .int .i64 x6]) := HD8.out.beside bb9 (by omega); have HQ9 : Hid (Blk wq9 gq [.int .i64 0, .int .i64 0, .int .i64 0, .int .i64 0, .int .i64 0, .int .i64 0, .int .i64 0]) := HQ8.out.beside bb9 (by omega); have HF9 : Hid (Lst bf 2 1 wq9 (.slice tf k cf) k U) := HF8.out.beside bb9 (by omega); have HE9 : Hid (Lst be 2 1 wq9 (.slice te k ce) k U2) := HE8.out.beside bb9 (by omega); have HBB9 : Hid (Below w.heap.size w wq9) := HBB8.out.trans (bb9.below (by omega) HBB8.out.size); have d90 : wq9.cell? ⟨gd, 0, none⟩ = some (.int .i64 x0) := HD9.out.2.2 0 _ rfl; have d91 : wq9.cell? ⟨gd, 1, none⟩ = some (.int .i64 x1) := HD9.out.2.2 1 _ rfl; have d92 : wq9.cell? ⟨gd, 2, none⟩ = some (.int .i64 x2) := HD9.out.2.2 2 _ rfl; have d93 : wq9.cell? ⟨gd, 3, none⟩ = some (.int .i64 x3) := HD9.out.2.2 3 _ rfl; have d94 : wq9.cell? ⟨gd, 4, none⟩ = some (.int .i64 x4) := HD9.out.2.2 4 _ rfl; have d95 : wq9.cell? ⟨gd, 5, none⟩ = some (.int .i64 x5) := HD9.out.2.2 5 _ rfl; have d96 : wq9.cell? ⟨gd, 6, none⟩ = some (.int .i64 x6) := HD9.out.2.2 6 _ rfl; have q90 : wq9.cell? ⟨gq, 0, none⟩ = some (.int .i64 0) := HQ9.out.2.2 0 _ rfl; have g90 : wq9.frozen? ⟨gq, 0, none⟩ = false := HQ9.out.2.1 0; have q91 : wq9.cell? ⟨gq, 1, none⟩ = some (.int .i64 0) := HQ9.out.2.2 1 _ rfl; have g91 : wq9.frozen? ⟨gq, 1, none⟩ = false := HQ9.out.2.1 1; have q92 : wq9.cell? ⟨gq, 2, none⟩ = some (.int .i64 0) := HQ9.out.2.2 2 _ rfl; have g92 : wq9.frozen? ⟨gq, 2, none⟩ = false := HQ9.out.2.1 2; have q93 : wq9.cell? ⟨gq, 3, none⟩ = some (.int .i64 0) := HQ9.out.2.2 3 _ rfl; have g93 : wq9.frozen? ⟨gq, 3, none⟩ = false := HQ9.out.2.1 3; have q94 : wq9.cell? ⟨gq, 4, none⟩ = some (.int .i64 0) := HQ9.out.2.2 4 _ rfl; have g94 : wq9.frozen? ⟨gq, 4, none⟩ = false := HQ9.out.2.1 4; have q95 : wq9.cell? ⟨gq, 5, none⟩ = some (.int .i64 0) := HQ9.out.2.2 5 _ rfl; have g95 : wq9.frozen? ⟨gq, 5, none⟩ = false := HQ9.out.2.1 5; have q96 : wq9.cell? ⟨gq, 6, none⟩ = some (.int .i64 0) := HQ9.out.2.2 6 _ rfl; have g96 : wq9.frozen? ⟨gq, 6, none⟩ = false := HQ9.out.2.1 6; have zq9 : gq < wq9.heap.size := HQ9.out.1; have zd9 : gd < wq9.heap.size := HD9.out.1; have HR9 : Hid (Rd wq9 r s n c p9) := R9; have zr9 : r < wq9.heap.size := HR9.out.1; clear bb9 b9 R9))
        all_goals
          go_wp2
          have BF := HBB9.out
          have sBF := BF.size
          have L1 := (((((((HF9.out.beside (Beside.setCell gq _ 0 (.int .i64 x0)) (by omega)).beside (Beside.setCell gq _ 1 (.int .i64 x1)) (by omega)).beside (Beside.setCell gq _ 2 (.int .i64 x2)) (by omega)).beside (Beside.setCell gq _ 3 (.int .i64 x3)) (by omega)).beside (Beside.setCell gq _ 4 (.int .i64 x4)) (by omega)).beside (Beside.setCell gq _ 5 (.int .i64 x5)) (by omega)).beside (Beside.setCell gq _ 6 (.int .i64 x6)) (by omega))
          have L2 := (((((((HE9.out.beside (Beside.setCell gq _ 0 (.int .i64 x0)) (by omega)).beside (Beside.setCell gq _ 1 (.int .i64 x1)) (by omega)).beside (Beside.setCell gq _ 2 (.int .i64 x2)) (by omega)).beside (Beside.setCell gq _ 3 (.int .i64 x3)) (by omega)).beside (Beside.setCell gq _ 4 (.int .i64 x4)) (by omega)).beside (Beside.setCell gq _ 5 (.int .i64 x5)) (by omega)).beside (Beside.setCell gq _ 6 (.int .i64 x6)) (by omega))
          obtain ⟨t1, c1, e1, o1⟩ := L1.own
          cases e1
          obtain ⟨t2, c2, e2, o2⟩ := L2.own
          cases e2
          rw [Nat.mul_one] at o1 o2
          refine bodyPost_ret (v := .tuple #[.agg #[.int .i64 x0, .int .i64 x1, .int .i64 x2, .int .i64 x3, .int .i64 x4, .int .i64 x5, .int .i64 x6], .int .i64 lv, (.slice tf k cf), (.slice te k ce)]) (by simp [results, Try.results12, go_sem, q90, q91, q92, q93, q94, q95, q96, *]) rfl ?_
          unfold CtlPost
          exact ⟨x0, x1, x2, x3, x4, x5, x6, lv, tf, k, cf, U, te, k, ce, U2, rfl, by omega, by omega, o1.row, o2.row, (by repeat (first | with_reducible exact Below.refl _ _ | with_reducible exact BF | with_reducible refine Below.setCell ?_ (by first | omega | (simp; done) | (simp; omega)) _ | with_reducible refine bDrewN ?_ _ | with_reducible refine Below.drew ?_ | with_reducible refine Below.alloc ?_ (by first | omega | (simp; done) | (simp; omega)) _))⟩
      · skip
        go_upto_region 13 with (at_builtin; refine list_two bf u8 k U (.tmp 38) (.tmp 39) (by rfl) (by rfl) (by rfl) (by rfl) Hf.out (by omega) Zf.out ?_; intro gf8 cf8 w8 l9 b9 far9 at9)
        have Nf : Hid (Lst bf 2 1 w8 (.slice (some ⟨gf8, 0, none⟩) (k + 1) cf8) (k + 1) (putL U 1 k [1])) := l9
        replace Hq : Hid (Blk w8 gq [.int .i64 0, .int .i64 0, .int .i64 0, .int .i64 0, .int .i64 0, .int .i64 0, .int .i64 0]) := Hq.out.belowB b9 (by omega)
        replace Hd : Hid (Blk w8 gd [.int .i64 x0, .int .i64 x1, .int .i64 x2, .int .i64 x3, .int .i64 x4, .int .i64 x5, .int .i64 x6]) := Hd.out.belowB b9 (by omega)
        have ND : Hid (∀ q, Value.ownBlock (.slice (some ⟨gf8, 0, none⟩) (k + 1) cf8) = some q → Value.ownBlock u9 = some q → False) := fun q e1 e2 => by
          have e : gf8 = q := by simpa [Value.ownBlock] using e1
          subst e
          rcases at9 with z | z
          · exact HA.out _ z e2
          · have := (He.out.lt _ e2).2; omega
        replace He : Hid (Lst be 2 1 w8 u9 k U2) := He.out.far far9 HA.out
        replace Zf : Hid (bf ≤ w8.heap.size) := Nat.le_trans Zf.out b9.size
        replace Ze : Hid (be ≤ w8.heap.size) := Nat.le_trans Ze.out b9.size
        replace HR : Hid (Rd w8 r s n c pf) := Rd.below' HR.out (b9.mono (by omega))
        replace HB : Hid (Below w.heap.size w w8) := HB.out.trans (b9.mono (by omega))
        replace Hf := Nf
        replace HA : Hid (∀ g, Value.ownBlock (.slice (some ⟨gf8, 0, none⟩) (k + 1) cf8) = some g → Value.ownBlock u9 = some g → False) := ND
        clear Nf ND l9 b9 far9 at9
        obtain ⟨te, ce, ee⟩ := He.out.form
        cases ee
        go_upto_region 13 with fail
        obtain ⟨z_d, f_d, c_d⟩ := Hd.out
        have dc0 : w8.cell? ⟨gd, 0, none⟩ = some (.int .i64 x0) := c_d 0 _ rfl
        have dc1 : w8.cell? ⟨gd, 1, none⟩ = some (.int .i64 x1) := c_d 1 _ rfl
        have dc2 : w8.cell? ⟨gd, 2, none⟩ = some (.int .i64 x2) := c_d 2 _ rfl
        have dc3 : w8.cell? ⟨gd, 3, none⟩ = some (.int .i64 x3) := c_d 3 _ rfl
        have dc4 : w8.cell? ⟨gd, 4, none⟩ = some (.int .i64 x4) := c_d 4 _ rfl
        have dc5 : w8.cell? ⟨gd, 5, none⟩ = some (.int .i64 x5) := c_d 5 _ rfl
        have dc6 : w8.cell? ⟨gd, 6, none⟩ = some (.int .i64 x6) := c_d 6 _ rfl
        have fd := f_d
        clear f_d c_d
        obtain ⟨z_q, f_q, c_q⟩ := Hq.out
        have qc0 : w8.cell? ⟨gq, 0, none⟩ = some (.int .i64 0) := c_q 0 _ rfl
        have qc1 : w8.cell? ⟨gq, 1, none⟩ = some (.int .i64 0) := c_q 1 _ rfl
        have qc2 : w8.cell? ⟨gq, 2, none⟩ = some (.int .i64 0) := c_q 2 _ rfl
        have qc3 : w8.cell? ⟨gq, 3, none⟩ = some (.int .i64 0) := c_q 3 _ rfl
        have qc4 : w8.cell? ⟨gq, 4, none⟩ = some (.int .i64 0) := c_q 4 _ rfl
        have qc5 : w8.cell? ⟨gq, 5, none⟩ = some (.int .i64 0) := c_q 5 _ rfl
        have qc6 : w8.cell? ⟨gq, 6, none⟩ = some (.int .i64 0) := c_q 6 _ rfl
        have fq := f_q
        clear f_q c_q
        have fq0 := fq 0
        have fq1 := fq 1
        have fq2 := fq 2
        have fq3 := fq 3
        have fq4 := fq 4
        have fq5 := fq 5
        have fq6 := fq 6
        have ndq : gd ≠ gq := by omega
        have nqd : gq ≠ gd := by omega
        have zr_ : r < w8.heap.size := HR.out.1
        go_region_with (first
          | (go_at_call 31; refine (below_any 3 (HR.out.below (by repeat (first | with_reducible exact Below.refl _ _ | with_reducible refine Below.setCell ?_ (by first | omega | (simp; done) | (simp; omega)) _ | with_reducible refine bDrewN ?_ _ | with_reducible refine Below.drew ?_ | with_reducible refine Below.alloc ?_ (by first | omega | (simp; done) | (simp; omega)) _)))).mono ?_; rintro e wq8 ⟨jj, p8, rfl, j0, j1, j2, R8, b8⟩; have j3 : jj < 3 := (by omega); obtain ⟨jn, ejn⟩ : ∃ jn : Nat, jj = (jn : Int) := ⟨jj.toNat, (by omega)⟩; subst ejn; obtain ⟨mo, hlit, mo0, mo1⟩ : ∃ mo : Int, (#[Value.int .i64 50, Value.int .i64 5000, Value.int .i64 1000000000000] : Array Value)[jn]? = some (.int .i64 mo) ∧ 50 ≤ mo ∧ mo ≤ 1000000000000 := pick3 (by omega); have bb8 : Beside r w8 wq8 := (Beside.of (show Below w8.heap.size w8 _ from (by repeat (first | with_reducible exact Below.refl _ _ | with_reducible refine Below.setCell ?_ (by first | omega | (simp; done) | (simp; omega)) _ | with_reducible refine bDrewN ?_ _ | with_reducible refine Below.drew ?_ | with_reducible refine Below.alloc ?_ (by first | omega | (simp; done) | (simp; omega)) _)))).trans b8; have HD8 : Hid (Blk wq8 gd [.int .i64 x0, .int .i64 x1, .int .i64 x2, .int .i64 x3, .int .i64 x4, .int .i64 x5, .int .i64 x6]) := Hd.out.beside bb8 (by omega); have HQ8 : Hid (Blk wq8 gq [.int .i64 0, .int .i64 0, .int .i64 0, .int .i64 0, .int .i64 0, .int .i64 0, .int .i64 0]) := Hq.out.beside bb8 (by omega); have HF8 : Hid (Lst bf 2 1 wq8 (.slice (some ⟨gf8, 0, none⟩) (k + 1) cf8) (k + 1) (putL U 1 k [1])) := Hf.out.beside bb8 (by omega); have HE8 : Hid (Lst be 2 1 wq8 (.slice te k ce) k U2) := He.out.beside bb8 (by omega); have HBB8 : Hid (Below w.heap.size w wq8) := HB.out.trans (bb8.below (by omega) HB.out.size); have d80 : wq8.cell? ⟨gd, 0, none⟩ = some (.int .i64 x0) := HD8.out.2.2 0 _ rfl; have d81 : wq8.cell? ⟨gd, 1, none⟩ = some (.int .i64 x1) := HD8.out.2.2 1 _ rfl; have d82 : wq8.cell? ⟨gd, 2, none⟩ = some (.int .i64 x2) := HD8.out.2.2 2 _ rfl; have d83 : wq8.cell? ⟨gd, 3, none⟩ = some (.int .i64 x3) := HD8.out.2.2 3 _ rfl; have d84 : wq8.cell? ⟨gd, 4, none⟩ = some (.int .i64 x4) := HD8.out.2.2 4 _ rfl; have d85 : wq8.cell? ⟨gd, 5, none⟩ = some (.int .i64 x5) := HD8.out.2.2 5 _ rfl; have d86 : wq8.cell? ⟨gd, 6, none⟩ = some (.int .i64 x6) := HD8.out.2.2 6 _ rfl; have q80 : wq8.cell? ⟨gq, 0, none⟩ = some (.int .i64 0) := HQ8.out.2.2 0 _ rfl; have g80 : wq8.frozen? ⟨gq, 0, none⟩ = false := HQ8.out.2.1 0; have q81 : wq8.cell? ⟨gq, 1, none⟩ = some (.int .i64 0) := HQ8.out.2.2 1 _ rfl; have g81 : wq8.frozen? ⟨gq, 1, none⟩ = false := HQ8.out.2.1 1; have q82 : wq8.cell? ⟨gq, 2, none⟩ = some (.int .i64 0) := HQ8.out.2.2 2 _ rfl; have g82 : wq8.frozen? ⟨gq, 2, none⟩ = false := HQ8.out.2.1 2; have q83 : wq8.cell? ⟨gq, 3, none⟩ = some (.int .i64 0) := HQ8.out.2.2 3 _ rfl; have g83 : wq8.frozen? ⟨gq, 3, none⟩ = false := HQ8.out.2.1 3; have q84 : wq8.cell? ⟨gq, 4, none⟩ = some (.int .i64 0) := HQ8.out.2.2 4 _ rfl; have g84 : wq8.frozen? ⟨gq, 4, none⟩ = false := HQ8.out.2.1 4; have q85 : wq8.cell? ⟨gq, 5, none⟩ = some (.int .i64 0) := HQ8.out.2.2 5 _ rfl; have g85 : wq8.frozen? ⟨gq, 5, none⟩ = false := HQ8.out.2.1 5; have q86 : wq8.cell? ⟨gq, 6, none⟩ = some (.int .i64 0) := HQ8.out.2.2 6 _ rfl; have g86 : wq8.frozen? ⟨gq, 6, none⟩ = false := HQ8.out.2.1 6; have zq8 : gq < wq8.heap.size := HQ8.out.1; have zd8 : gd < wq8.heap.size := HD8.out.1; have HR8 : Hid (Rd wq8 r s n c p8) := R8; have zr8 : r < wq8.heap.size := HR8.out.1; (try (have l8 : wq8.cell? ⟨w8.heap.size, jn, none⟩ = some (.int .i64 mo) := (b8.cell (p := ⟨w8.heap.size, jn, none⟩) (by first | omega | (simp; done) | (simp; omega)) (by simp only; omega)).trans (by simp [go_sem, hlit]))); have z8 := bb8.2.2.2.1; clear bb8 b8 R8 j1 j2)
          | (go_at_call 34; refine (off_any 0 mo (by omega) (by omega) (by omega) (HR8.out.below (by repeat (first | with_reducible exact Below.refl _ _ | with_reducible refine Below.setCell ?_ (by first | omega | (simp; done) | (simp; omega)) _ | with_reducible refine bDrewN ?_ _ | with_reducible refine Below.drew ?_ | with_reducible refine Below.alloc ?_ (by first | omega | (simp; done) | (simp; omega)) _)))).mono ?_; rintro e wq9 ⟨lv, p9, rfl, lv0, R9, b9⟩; have bb9 : Beside r wq8 wq9 := (Beside.of (show Below wq8.heap.size wq8 _ from (by repeat (first | with_reducible exact Below.refl _ _ | with_reducible refine Below.setCell ?_ (by first | omega | (simp; done) | (simp; omega)) _ | with_reducible refine bDrewN ?_ _ | with_reducible refine Below.drew ?_ | with_reducible refine Below.alloc ?_ (by first | omega | (simp; done) | (simp; omega)) _)))).trans b9; have HD9 : Hid (Blk wq9 gd [.int .i64 x0, .int .i64 x1, .int .i64 x2, .int .i64 x3, .int .i64 x4, .int .i64 x5, .int .i64 x6]) := HD8.out.beside bb9 (by omega); have HQ9 : Hid (Blk wq9 gq [.int .i64 0, .int .i64 0, .int .i64 0, .int .i64 0, .int .i64 0, .int .i64 0, .int .i64 0]) := HQ8.out.beside bb9 (by omega); have HF9 : Hid (Lst bf 2 1 wq9 (.slice (some ⟨gf8, 0, none⟩) (k + 1) cf8) (k + 1) (putL U 1 k [1])) := HF8.out.beside bb9 (by omega); have HE9 : Hid (Lst be 2 1 wq9 (.slice te k ce) k U2) := HE8.out.beside bb9 (by omega); have HBB9 : Hid (Below w.heap.size w wq9) := HBB8.out.trans (bb9.below (by omega) HBB8.out.size); have d90 : wq9.cell? ⟨gd, 0, none⟩ = some (.int .i64 x0) := HD9.out.2.2 0 _ rfl; have d91 : wq9.cell? ⟨gd, 1, none⟩ = some (.int .i64 x1) := HD9.out.2.2 1 _ rfl; have d92 : wq9.cell? ⟨gd, 2, none⟩ = some (.int .i64 x2) := HD9.out.2.2 2 _ rfl; have d93 : wq9.cell? ⟨gd, 3, none⟩ = some (.int .i64 x3) := HD9.out.2.2 3 _ rfl; have d94 : wq9.cell? ⟨gd, 4, none⟩ = some (.int .i64 x4) := HD9.out.2.2 4 _ rfl; have d95 : wq9.cell? ⟨gd, 5, none⟩ = some (.int .i64 x5) := HD9.out.2.2 5 _ rfl; have d96 : wq9.cell? ⟨gd, 6, none⟩ = some (.int .i64 x6) := HD9.out.2.2 6 _ rfl; have q90 : wq9.cell? ⟨gq, 0, none⟩ = some (.int .i64 0) := HQ9.out.2.2 0 _ rfl; have g90 : wq9.frozen? ⟨gq, 0, none⟩ = false := HQ9.out.2.1 0; have q91 : wq9.cell? ⟨gq, 1, none⟩ = some (.int .i64 0) := HQ9.out.2.2 1 _ rfl; have g91 : wq9.frozen? ⟨gq, 1, none⟩ = false := HQ9.out.2.1 1; have q92 : wq9.cell? ⟨gq, 2, none⟩ = some (.int .i64 0) := HQ9.out.2.2 2 _ rfl; have g92 : wq9.frozen? ⟨gq, 2, none⟩ = false := HQ9.out.2.1 2; have q93 : wq9.cell? ⟨gq, 3, none⟩ = some (.int .i64 0) := HQ9.out.2.2 3 _ rfl; have g93 : wq9.frozen? ⟨gq, 3, none⟩ = false := HQ9.out.2.1 3; have q94 : wq9.cell? ⟨gq, 4, none⟩ = some (.int .i64 0) := HQ9.out.2.2 4 _ rfl; have g94 : wq9.frozen? ⟨gq, 4, none⟩ = false := HQ9.out.2.1 4; have q95 : wq9.cell? ⟨gq, 5, none⟩ = some (.int .i64 0) := HQ9.out.2.2 5 _ rfl; have g95 : wq9.frozen? ⟨gq, 5, none⟩ = false := HQ9.out.2.1 5; have q96 : wq9.cell? ⟨gq, 6, none⟩ = some (.int .i64 0) := HQ9.out.2.2 6 _ rfl; have g96 : wq9.frozen? ⟨gq, 6, none⟩ = false := HQ9.out.2.1 6; have zq9 : gq < wq9.heap.size := HQ9.out.1; have zd9 : gd < wq9.heap.size := HD9.out.1; have HR9 : Hid (Rd wq9 r s n c p9) := R9; have zr9 : r < wq9.heap.size := HR9.out.1; clear bb9 b9 R9))
        all_goals
          go_wp2
          have BF := HBB9.out
          have sBF := BF.size
          have L1 := (((((((HF9.out.beside (Beside.setCell gq _ 0 (.int .i64 x0)) (by omega)).beside (Beside.setCell gq _ 1 (.int .i64 x1)) (by omega)).beside (Beside.setCell gq _ 2 (.int .i64 x2)) (by omega)).beside (Beside.setCell gq _ 3 (.int .i64 x3)) (by omega)).beside (Beside.setCell gq _ 4 (.int .i64 x4)) (by omega)).beside (Beside.setCell gq _ 5 (.int .i64 x5)) (by omega)).beside (Beside.setCell gq _ 6 (.int .i64 x6)) (by omega))
          have L2 := (((((((HE9.out.beside (Beside.setCell gq _ 0 (.int .i64 x0)) (by omega)).beside (Beside.setCell gq _ 1 (.int .i64 x1)) (by omega)).beside (Beside.setCell gq _ 2 (.int .i64 x2)) (by omega)).beside (Beside.setCell gq _ 3 (.int .i64 x3)) (by omega)).beside (Beside.setCell gq _ 4 (.int .i64 x4)) (by omega)).beside (Beside.setCell gq _ 5 (.int .i64 x5)) (by omega)).beside (Beside.setCell gq _ 6 (.int .i64 x6)) (by omega))
          obtain ⟨t1, c1, e1, o1⟩ := L1.own
          cases e1
          obtain ⟨t2, c2, e2, o2⟩ := L2.own
          cases e2
          rw [Nat.mul_one] at o1 o2
          refine bodyPost_ret (v := .tuple #[.agg #[.int .i64 x0, .int .i64 x1, .int .i64 x2, .int .i64 x3, .int .i64 x4, .int .i64 x5, .int .i64 x6], .int .i64 lv, (.slice (some ⟨gf8, 0, none⟩) (k + 1) cf8), (.slice te k ce)]) (by simp [results, Try.results12, go_sem, q90, q91, q92, q93, q94, q95, q96, *]) rfl ?_
          unfold CtlPost
          exact ⟨x0, x1, x2, x3, x4, x5, x6, lv, (some ⟨gf8, 0, none⟩), (k + 1), cf8, (putL U 1 k [1]), te, k, ce, U2, rfl, by omega, by omega, o1.row, o2.row, (by repeat (first | with_reducible exact Below.refl _ _ | with_reducible exact BF | with_reducible refine Below.setCell ?_ (by first | omega | (simp; done) | (simp; omega)) _ | with_reducible refine bDrewN ?_ _ | with_reducible refine Below.drew ?_ | with_reducible refine Below.alloc ?_ (by first | omega | (simp; done) | (simp; omega)) _))⟩
end Go.Proofs.Ytigcbgiakijloaa
