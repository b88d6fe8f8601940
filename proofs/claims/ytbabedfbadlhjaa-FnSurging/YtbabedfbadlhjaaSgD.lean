/-
What is proved: a map, speeds and flows that are drawn from a code: any numbers.
-/
import Derived.Test.YtbabedfbadlhjaaSgP
import Derived.Test.YtbabedfbadlhjaaSiz
import Derived.Test.YtbabedfbadlhjaaRdC
import Derived.Test.YtbabedfbadlhjaaLsTwo
namespace Go.Proofs.Ytbabedfbadlhjaa
set_option maxRecDepth 40000
open Go.ChangeShapes Go.WideShapes Go.ChangeAt Go.RowKit
set_option linter.unusedVariables false
set_option linter.unusedSimpArgs false

def DsuPost (w : World) (e : Ending) (w' : World) : Prop := ∃ (t : Option Addr) (m cap : Nat) (S : Nat → Int) (K : Nat → Nat) (V : Nat → Nat → Int) (t1 : Option Addr) (n1 c1 : Nat) (P : Nat → Int) (t2 : Option Addr) (n2 c2 : Nat) (F : Nat → Int), e = .returned (.tuple #[.slice t m cap, .slice t1 n1 c1, .slice t2 n2 c2]) ∧ MapR w' t m S K V ∧ RowI w' t1 n1 P ∧ RowI w' t2 n2 F ∧ (∀ j, j < n2 → (F j).natAbs ≤ 9223372036854775808) ∧ n1 ≤ 21 ∧ n2 ≤ n1 ∧ Below w.heap.size w w'
set_option maxRecDepth 20000 in
set_option maxHeartbeats 8000000 in
theorem drawSurges_any {s : Option Addr} {n c : Nat} {w : World} (h : Hid (Code8 w s n)) :
    Calls Try.prog 15 #[.slice s n c] w fun e w' => DsuPost w e w' := by
  go_enter Try.func15, Try.ntmps15
  go_wp2_with fail
  refine (open_any (h.out.below (by repeat (first | with_reducible exact Below.refl _ _ | with_reducible refine Below.setCell ?_ (by first | omega | (simp; done) | (simp; omega)) _ | with_reducible refine bDrewN ?_ _ | with_reducible refine Below.drew ?_ | with_reducible refine Below.alloc ?_ (by first | omega | (simp; done) | (simp; omega)) _)))).mono ?_
  rintro e w1 ⟨rfl, R_, b_⟩
  obtain ⟨r, hr⟩ : ∃ r, r = w.heap.size := ⟨_, rfl⟩
  have HR : Hid (Rd w1 r s n c 0) := by show Rd _ _ _ _ _ _; rw [hr]; simpa using R_
  have HB : Hid (Below w.heap.size w w1) := (show Below w.heap.size w _ from (by repeat (first | with_reducible exact Below.refl _ _ | with_reducible refine Below.setCell ?_ (by first | omega | (simp; done) | (simp; omega)) _ | with_reducible refine bDrewN ?_ _ | with_reducible refine Below.drew ?_ | with_reducible refine Below.alloc ?_ (by first | omega | (simp; done) | (simp; omega)) _))).trans (b_.mono (by first | omega | (simp; done) | (simp; omega)))
  have zr : w.heap.size ≤ r := by omega
  try rw [show w.heap.size = r by rw [hr]; simp]
  try rw [← hr]
  clear R_ b_ h hr
  have zr1 : r < w1.heap.size := HR.out.1
  go_wp2_with fail
  refine (lines_any (HR.out.below (by repeat (first | with_reducible exact Below.refl _ _ | with_reducible refine Below.setCell ?_ (by first | omega | (simp; done) | (simp; omega)) _ | with_reducible refine bDrewN ?_ _ | with_reducible refine Below.drew ?_ | with_reducible refine Below.alloc ?_ (by first | omega | (simp; done) | (simp; omega)) _)))).mono ?_
  rintro e w2 ⟨vm, m, pl, rfl, m1, m6, hM, R_, b_⟩
  have sz_ : w.heap.size ≤ w1.heap.size := HB.out.size
  have zr_ : r < w1.heap.size := HR.out.1
  have bb : Beside r w1 w2 := (Beside.of (show Below w1.heap.size w1 _ from (by repeat (first | with_reducible exact Below.refl _ _ | with_reducible refine Below.setCell ?_ (by first | omega | (simp; done) | (simp; omega)) _ | with_reducible refine bDrewN ?_ _ | with_reducible refine Below.drew ?_ | with_reducible refine Below.alloc ?_ (by first | omega | (simp; done) | (simp; omega)) _)))).trans b_
  replace HB : Hid (Below w.heap.size w w2) := HB.out.trans (bb.below (by omega) HB.out.size)
  replace HR : Hid (Rd w2 r s n c pl) := R_
  clear R_
  clear bb b_ sz_ zr_ 
  obtain ⟨tm, cm, em⟩ := hM.val
  subst em
  obtain ⟨f0, hF0⟩ := hM
  obtain ⟨gm, hg⟩ : ∃ g, tm = some ⟨g, 0, none⟩ := by
    rcases hF0.1.2 with ⟨_, q⟩ | ⟨g, cap, cur, e, hb, _⟩
    · omega
    · cases e; exact ⟨g, rfl⟩
  subst hg
  have HM0 : Hid (MpL (r + 1) w2 (.slice (some ⟨gm, 0, none⟩) m cm) m) := MpL.low ⟨f0, hF0⟩ (by omega)
  clear hF0 f0 zr1
  have K : Hid (Beside r w2 w2) := Beside.of (Below.refl _ _)
  go_upto_region 4 with fail
  have sz_ : w.heap.size ≤ w2.heap.size := HB.out.size
  have zr_ : r < w2.heap.size := HR.out.1
  obtain ⟨w3, hw_⟩ : ∃ x_, x_ = w2.alloc (.cells #[] 2) := ⟨_, rfl⟩
  rw [← hw_]
  have bl_ : Below w2.heap.size w2 w3 := by rw [hw_]; exact below0 _ _
  obtain ⟨bf, hbf⟩ : ∃ g, g = w2.heap.size := ⟨_, rfl⟩
  have Hf : Hid (Lst bf 2 1 w3 (.slice (some ⟨bf, 0, none⟩) 0 0) 0 (fun _ => 0)) := by show Lst _ _ _ _ _ _ _; rw [hw_, hbf]; exact Lst.lit w2 _ 2 2 1 _ (Nat.le_refl _)
  replace HR : Hid (Rd w3 r s n c pl) := HR.out.below bl_
  have lKbf : w2.heap.size ≤ bf := by have := K.out.2.2.2.1; omega
  replace K : Hid (Beside r w2 w3) := K.out.trans (Beside.of bl_)
  replace HB : Hid (Below w.heap.size w w3) := HB.out.trans (bl_.mono sz_)
  have lbf : w.heap.size ≤ bf := by omega
  have rbf : r < bf := by omega
  have zsf : bf < w3.heap.size := by rw [hw_, hbf]; simp
  have Zf : Hid (bf ≤ w3.heap.size) := by show _ ≤ _; have := bl_.size; omega
  try rw [← hbf]
  clear hw_ hbf bl_ sz_ zr_ 
  go_upto_region 5 with fail
  have sz_ : w.heap.size ≤ w3.heap.size := HB.out.size
  have zr_ : r < w3.heap.size := HR.out.1
  obtain ⟨w4, hw_⟩ : ∃ x_, x_ = w3.alloc (.cells #[] 2) := ⟨_, rfl⟩
  rw [← hw_]
  have bl_ : Below w3.heap.size w3 w4 := by rw [hw_]; exact below0 _ _
  obtain ⟨be, hbe⟩ : ∃ g, g = w3.heap.size := ⟨_, rfl⟩
  have He : Hid (Lst be 2 1 w4 (.slice (some ⟨be, 0, none⟩) 0 0) 0 (fun _ => 0)) := by show Lst _ _ _ _ _ _ _; rw [hw_, hbe]; exact Lst.lit w3 _ 2 2 1 _ (Nat.le_refl _)
  replace Hf : Hid (Lst bf 2 1 w4 (.slice (some ⟨bf, 0, none⟩) 0 0) 0 (fun _ => 0)) := Hf.out.below bl_
  replace Zf : Hid (bf ≤ w4.heap.size) := Nat.le_trans Zf.out bl_.size
  replace HR : Hid (Rd w4 r s n c pl) := HR.out.below bl_
  have lKbe : w2.heap.size ≤ be := by have := K.out.2.2.2.1; omega
  replace K : Hid (Beside r w2 w4) := K.out.trans (Beside.of bl_)
  replace HB : Hid (Below w.heap.size w w4) := HB.out.trans (bl_.mono sz_)
  have lbe : w.heap.size ≤ be := by omega
  have rbe : r < be := by omega
  have dbfbe : bf < be := by have := zsf; omega
  have zse : be < w4.heap.size := by rw [hw_, hbe]; simp
  have Ze : Hid (be ≤ w4.heap.size) := by show _ ≤ _; have := bl_.size; omega
  try rw [← hbe]
  clear hw_ hbe bl_ sz_ zr_ 
  go_wp2_with fail
  refine (size_any 10 20 (by omega) (by omega) (by omega) (by omega) (HR.out.below (by repeat (first | with_reducible exact Below.refl _ _ | with_reducible refine Below.setCell ?_ (by first | omega | (simp; done) | (simp; omega)) _ | with_reducible refine bDrewN ?_ _ | with_reducible refine Below.drew ?_ | with_reducible refine Below.alloc ?_ (by first | omega | (simp; done) | (simp; omega)) _)))).mono ?_
  rintro e w5 ⟨N, pN, rfl, N0, N1, R_, b_⟩
  have sz_ : w.heap.size ≤ w4.heap.size := HB.out.size
  have zr_ : r < w4.heap.size := HR.out.1
  have bb : Beside r w4 w5 := (Beside.of (show Below w4.heap.size w4 _ from (by repeat (first | with_reducible exact Below.refl _ _ | with_reducible refine Below.setCell ?_ (by first | omega | (simp; done) | (simp; omega)) _ | with_reducible refine bDrewN ?_ _ | with_reducible refine Below.drew ?_ | with_reducible refine Below.alloc ?_ (by first | omega | (simp; done) | (simp; omega)) _)))).trans b_
  replace Hf : Hid (Lst bf 2 1 w5 (.slice (some ⟨bf, 0, none⟩) 0 0) 0 (fun _ => 0)) := Hf.out.beside bb (by omega)
  replace Zf : Hid (bf ≤ w5.heap.size) := Nat.le_trans Zf.out bb.2.2.2.1
  replace He : Hid (Lst be 2 1 w5 (.slice (some ⟨be, 0, none⟩) 0 0) 0 (fun _ => 0)) := He.out.beside bb (by omega)
  replace Ze : Hid (be ≤ w5.heap.size) := Nat.le_trans Ze.out bb.2.2.2.1
  replace K : Hid (Beside r w2 w5) := K.out.trans bb
  replace HB : Hid (Below w.heap.size w w5) := HB.out.trans (bb.below (by omega) HB.out.size)
  replace HR : Hid (Rd w5 r s n c pN) := R_
  clear R_
  clear bb b_ sz_ zr_ 
  have HA : Hid (∀ g, Value.ownBlock (.slice (some ⟨bf, 0, none⟩) 0 0) = some g → Value.ownBlock (.slice (some ⟨be, 0, none⟩) 0 0) = some g → False) := fun g e1 e2 => by
    simp [Value.ownBlock] at e1 e2; omega
  go_wp2_with fail
  go_loopw [7, 8, 9] (fun v u i wr => ∃ (k : Nat) (U U2 : Nat → Int) (p5 : Nat), (k : Int) ≤ N ∧ i = .int .i64 (N - k) ∧ Hid (∀ j, j < k → (U2 j).natAbs ≤ 9223372036854775808) ∧ Hid (∀ g, v.ownBlock = some g → u.ownBlock = some g → False) ∧ Hid (Rd wr r s n c p5) ∧ Hid (Below w.heap.size w wr) ∧ Hid (Lst bf 2 1 wr v k U) ∧ Hid (bf ≤ wr.heap.size) ∧ Hid (Lst be 2 1 wr u k U2) ∧ Hid (be ≤ wr.heap.size) ∧ Hid (Beside r w2 wr)) (fun _ _ i _ => (intOf i).toNat)
  case atStart => exact ⟨0, fun _ => 0, fun _ => 0, pN, by omega, by simp, fun j hj => by omega, HA, HR, HB, Hf, Zf, He, Ze, K⟩
  case round =>
    clear HR HB Hf Zf He Ze K
    clear HA
    obtain ⟨k, U, U2, p5, hk, rfl, HBD, HA, HR, HB, Hf, Zf, He, Ze, K⟩ := hrel
    by_cases hlt : (k : Int) < N
    case pos =>
      have q0 : 0 < N - (k : Int) := by omega
      have HMr : Hid (MpL (r + 1) wr (.slice (some ⟨gm, 0, none⟩) m cm) m) := HM0.out.beside K.out (by omega)
      go_wp2_with fail
      refine (pick_any HR HMr (by omega) m1 m6).mono ?_
      rintro e w6 ⟨x, y, pp, rfl, R_, b_⟩
      have sz_ : w.heap.size ≤ wr.heap.size := HB.out.size
      have zr_ : r < wr.heap.size := HR.out.1
      have bb : Beside r wr w6 := (Beside.of (show Below wr.heap.size wr _ from (by repeat (first | with_reducible exact Below.refl _ _ | with_reducible refine Below.setCell ?_ (by first | omega | (simp; done) | (simp; omega)) _ | with_reducible refine bDrewN ?_ _ | with_reducible refine Below.drew ?_ | with_reducible refine Below.alloc ?_ (by first | omega | (simp; done) | (simp; omega)) _)))).trans b_
      replace Hf : Hid (Lst bf 2 1 w6 u7 k U) := Hf.out.beside bb (by omega)
      replace Zf : Hid (bf ≤ w6.heap.size) := Nat.le_trans Zf.out bb.2.2.2.1
      replace He : Hid (Lst be 2 1 w6 u8 k U2) := He.out.beside bb (by omega)
      replace Ze : Hid (be ≤ w6.heap.size) := Nat.le_trans Ze.out bb.2.2.2.1
      replace K : Hid (Beside r w2 w6) := K.out.trans bb
      replace HB : Hid (Below w.heap.size w w6) := HB.out.trans (bb.below (by omega) HB.out.size)
      replace HR : Hid (Rd w6 r s n c pp) := R_
      clear R_
      clear bb b_ sz_ zr_ 
      clear HMr
      go_upto_region 10 with (at_builtin; refine list_two bf u7 k U (.tmp 30) (.tmp 32) (by rfl) (by rfl) (by rfl) (by rfl) Hf.out (by omega) Zf.out ?_; intro gf9 cf9 w7 l9 b9 far9 at9)
      have Nf : Hid (Lst bf 2 1 w7 (.slice (some ⟨gf9, 0, none⟩) (k + 1) cf9) (k + 1) (putL U 1 k [x])) := l9
      have ND : Hid (∀ q, Value.ownBlock (.slice (some ⟨gf9, 0, none⟩) (k + 1) cf9) = some q → Value.ownBlock u8 = some q → False) := fun q e1 e2 => by
        have e : gf9 = q := by simpa [Value.ownBlock] using e1
        subst e
        rcases at9 with z | z
        · exact HA.out _ z e2
        · have := (He.out.lt _ e2).2; omega
      replace He : Hid (Lst be 2 1 w7 u8 k U2) := He.out.far far9 HA.out
      replace Zf : Hid (bf ≤ w7.heap.size) := Nat.le_trans Zf.out b9.size
      replace Ze : Hid (be ≤ w7.heap.size) := Nat.le_trans Ze.out b9.size
      replace K : Hid (Beside r w2 w7) := K.out.onB (b9.mono (by omega))
      replace HR : Hid (Rd w7 r s n c pp) := Rd.below' HR.out (b9.mono (by omega))
      replace HB : Hid (Below w.heap.size w w7) := HB.out.trans (b9.mono (by omega))
      replace Hf := Nf
      replace HA : Hid (∀ g, Value.ownBlock (.slice (some ⟨gf9, 0, none⟩) (k + 1) cf9) = some g → Value.ownBlock u8 = some g → False) := ND
      clear Nf ND l9 b9 far9 at9
      go_wp2_with fail
      refine (below_any 40 (HR.out.below (by repeat (first | with_reducible exact Below.refl _ _ | with_reducible refine Below.setCell ?_ (by first | omega | (simp; done) | (simp; omega)) _ | with_reducible refine bDrewN ?_ _ | with_reducible refine Below.drew ?_ | with_reducible refine Below.alloc ?_ (by first | omega | (simp; done) | (simp; omega)) _)))).mono ?_
      rintro e w8 ⟨bb_, pb, rfl, bb0, -, bb2, R_, b_⟩
      have sz_ : w.heap.size ≤ w7.heap.size := HB.out.size
      have zr_ : r < w7.heap.size := HR.out.1
      have bb : Beside r w7 w8 := (Beside.of (show Below w7.heap.size w7 _ from (by repeat (first | with_reducible exact Below.refl _ _ | with_reducible refine Below.setCell ?_ (by first | omega | (simp; done) | (simp; omega)) _ | with_reducible refine bDrewN ?_ _ | with_reducible refine Below.drew ?_ | with_reducible refine Below.alloc ?_ (by first | omega | (simp; done) | (simp; omega)) _)))).trans b_
      replace Hf : Hid (Lst bf 2 1 w8 (.slice (some ⟨gf9, 0, none⟩) (k + 1) cf9) (k + 1) (putL U 1 k [x])) := Hf.out.beside bb (by omega)
      replace Zf : Hid (bf ≤ w8.heap.size) := Nat.le_trans Zf.out bb.2.2.2.1
      replace He : Hid (Lst be 2 1 w8 u8 k U2) := He.out.beside bb (by omega)
      replace Ze : Hid (be ≤ w8.heap.size) := Nat.le_trans Ze.out bb.2.2.2.1
      replace K : Hid (Beside r w2 w8) := K.out.trans bb
      replace HB : Hid (Below w.heap.size w w8) := HB.out.trans (bb.below (by omega) HB.out.size)
      replace HR : Hid (Rd w8 r s n c pb) := R_
      clear R_
      clear bb b_ sz_ zr_ 
      have bb3 : bb_ < 40 := by omega
      obtain ⟨y1, hy1⟩ : ∃ z, wrap64 (y + bb_) = z := ⟨_, rfl⟩
      obtain ⟨y2, hy2⟩ : ∃ z, wrap64 (y1 - 10) = z := ⟨_, rfl⟩
      have y2b : y2.natAbs ≤ 9223372036854775808 := by rw [← hy2]; unfold wrap64; omega
      have HY : Hid (y2.natAbs ≤ 9223372036854775808) := y2b
      clear y2b bb2
      go_wp2_with (at_builtin; refine list_two be u8 k U2 (.tmp 34) (.tmp 40) (by rfl) (by rfl) (by rfl) (by rfl) He.out (by omega) Ze.out ?_; intro ge9 ce9 w9 l9 b9 far9 at9)
      have Ne : Hid (Lst be 2 1 w9 (.slice (some ⟨ge9, 0, none⟩) (k + 1) ce9) (k + 1) (putL U2 1 k [y2])) := l9
      have ND : Hid (∀ q, Value.ownBlock (.slice (some ⟨ge9, 0, none⟩) (k + 1) ce9) = some q → Value.ownBlock (.slice (some ⟨gf9, 0, none⟩) (k + 1) cf9) = some q → False) := fun q e1 e2 => by
        have e : ge9 = q := by simpa [Value.ownBlock] using e1
        subst e
        rcases at9 with z | z
        · exact (fun g a b => HA.out g b a) _ z e2
        · have := (Hf.out.lt _ e2).2; omega
      replace Hf : Hid (Lst bf 2 1 w9 (.slice (some ⟨gf9, 0, none⟩) (k + 1) cf9) (k + 1) (putL U 1 k [x])) := Hf.out.far far9 (fun g a b => HA.out g b a)
      replace Zf : Hid (bf ≤ w9.heap.size) := Nat.le_trans Zf.out b9.size
      replace Ze : Hid (be ≤ w9.heap.size) := Nat.le_trans Ze.out b9.size
      replace K : Hid (Beside r w2 w9) := K.out.onB (b9.mono (by omega))
      replace HR : Hid (Rd w9 r s n c pb) := Rd.below' HR.out (b9.mono (by omega))
      replace HB : Hid (Below w.heap.size w w9) := HB.out.trans (b9.mono (by omega))
      replace He := Ne
      replace HA : Hid (∀ g, Value.ownBlock (.slice (some ⟨gf9, 0, none⟩) (k + 1) cf9) = some g → Value.ownBlock (.slice (some ⟨ge9, 0, none⟩) (k + 1) ce9) = some g → False) := (fun g a b => ND.out g b a)
      clear Ne ND l9 b9 far9 at9
      have HBD2 : Hid (∀ j, j < k + 1 → (putL U2 1 k [y2] j).natAbs ≤ 9223372036854775808) := fun j hj => by
        unfold putL
        by_cases q : k * 1 ≤ j
        · rw [if_pos q, show j - k * 1 = 0 by omega]; exact HY.out
        · rw [if_neg q]; exact HBD.out j (by omega)
      clear HY HBD hy1 hy2
      go_roundw
      case rel => exact ⟨k + 1, _, _, pb, by omega, by congr 1; omega, HBD2, HA, HR, HB, Hf, Zf, He, Ze, K⟩
      case measure => simp [intOf]; omega
    case neg =>
      obtain rfl : (k : Int) = N := by omega
      rename World => wl
      go_wp2_with fail
      refine (once_any 20 (by omega) (by omega) (HR.out.below (by repeat (first | with_reducible exact Below.refl _ _ | with_reducible refine Below.setCell ?_ (by first | omega | (simp; done) | (simp; omega)) _ | with_reducible refine bDrewN ?_ _ | with_reducible refine Below.drew ?_ | with_reducible refine Below.alloc ?_ (by first | omega | (simp; done) | (simp; omega)) _)))).mono ?_
      rintro e w6 ⟨fl, pf, rfl, R_, b_⟩
      have sz_ : w.heap.size ≤ wl.heap.size := HB.out.size
      have zr_ : r < wl.heap.size := HR.out.1
      have bb : Beside r wl w6 := (Beside.of (show Below wl.heap.size wl _ from (by repeat (first | with_reducible exact Below.refl _ _ | with_reducible refine Below.setCell ?_ (by first | omega | (simp; done) | (simp; omega)) _ | with_reducible refine bDrewN ?_ _ | with_reducible refine Below.drew ?_ | with_reducible refine Below.alloc ?_ (by first | omega | (simp; done) | (simp; omega)) _)))).trans b_
      replace Hf : Hid (Lst bf 2 1 w6 u7 k U) := Hf.out.beside bb (by omega)
      replace Zf : Hid (bf ≤ w6.heap.size) := Nat.le_trans Zf.out bb.2.2.2.1
      replace He : Hid (Lst be 2 1 w6 u8 k U2) := He.out.beside bb (by omega)
      replace Ze : Hid (be ≤ w6.heap.size) := Nat.le_trans Ze.out bb.2.2.2.1
      replace K : Hid (Beside r w2 w6) := K.out.trans bb
      replace HB : Hid (Below w.heap.size w w6) := HB.out.trans (bb.below (by omega) HB.out.size)
      replace HR : Hid (Rd w6 r s n c pf) := R_
      clear R_
      clear bb b_ sz_ zr_ 
      have k21 : k ≤ 21 := by omega
      have k1 : 1 ≤ k := by omega
      clear hk hlt N0 N1
      have HM9 : Hid (MpL (r + 1) w6 (.slice (some ⟨gm, 0, none⟩) m cm) m) := HM0.out.beside K.out (by omega)
      obtain ⟨S, KK, V, hMR, hMK⟩ := HM9.out.map
      obtain ⟨t1, c1, e1, o1⟩ := Hf.out.own
      cases e1
      obtain ⟨t2, c2, e2, o2⟩ := He.out.own
      cases e2
      rw [Nat.mul_one] at o1 o2
      have R1 := o1.row
      have R2 := o2.row
      have hcap := He.out.cap
      have BF := HB.out
      have hBD := HBD.out
      clear HM9 HM0 HBD HA o1 o2 HR HB Hf He Zf Ze K
      cases fl
      case false =>
        go_wp2
        refine bodyPost_ret (v := .tuple #[.slice (some ⟨gm, 0, none⟩) m cm, .slice t1 k c1, .slice t2 k c2]) (by simp [results, Try.results15, go_sem]) rfl ?_
        exact ⟨_, m, cm, S, KK, V, t1, k, c1, U, t2, k, c2, U2, rfl, hMR, R1, R2, hBD, k21, Nat.le_refl _, BF⟩
      case true =>
        obtain ⟨b2, o2, rfl, -, -⟩ := R2 0 (by omega)
        have k1i : (1 : Int) ≤ (k : Int) := by omega
        have kci : (k : Int) ≤ (c2 : Int) := by omega
        have c1i : (1 : Int) ≤ (c2 : Int) := by omega
        obtain ⟨ta, hta⟩ : ∃ ta : Option Addr, (if c2 = 1 then some ⟨b2, o2, none⟩ else some ⟨b2, o2 + 1, none⟩) = ta := ⟨_, rfl⟩
        go_wp2
        refine bodyPost_ret (v := .tuple #[.slice (some ⟨gm, 0, none⟩) m cm, .slice t1 k c1, .slice ta (k - 1) (c2 - 1)]) (by simp [results, Try.results15, go_sem, hta]) rfl ?_
        exact ⟨_, m, cm, S, KK, V, t1, k, c1, U, ta, k - 1, c2 - 1, fun j => U2 (j + 1), rfl, hMR, R1, by
          intro j hj
          obtain ⟨b3, o3, e3, z3, d3⟩ := R2 (j + 1) (by omega)
          cases e3
          rw [← hta, if_neg (by omega)]
          exact ⟨b2, o2 + 1, rfl, z3, by rw [← d3]; congr 2; omega⟩, fun j hj => hBD (j + 1) (by omega), k21, by omega, BF⟩
end Go.Proofs.Ytbabedfbadlhjaa
