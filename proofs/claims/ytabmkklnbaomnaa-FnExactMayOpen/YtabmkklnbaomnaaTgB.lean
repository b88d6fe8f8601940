/-
What is proved: tags, and whether a valve may be opened, as both packages say it.
-/
import Derived.Test.YtabmkklnbaomnaaTgI
import Derived.Test.YtabmkklnbaomnaaOwnV
import Derived.Test.YtabmkklnbaomnaaCuC
namespace Go.Proofs.Ytabmkklnbaomnaa
set_option maxRecDepth 40000
open Go.ChangeShapes Go.WideShapes Go.ChangeAt Go.RowKit
set_option linter.unusedVariables false
set_option linter.unusedSimpArgs false

theorem own_sameT {w w' : World} {base : Nat} {e : TypeId} {size : Nat} {v : Value} {n : Nat} {xs : List Value} (h : w.ownsRow base e size v n xs) (hs : Below w.heap.size w w') : w'.ownsRow base e size v n xs := by
  refine ⟨h.1, ?_⟩
  rcases h.2 with q | ⟨g, cap, cur, e1, hb, hg, r⟩
  · exact .inl q
  · exact .inr ⟨g, cap, cur, e1, hb, (hs.block g (Array.getElem?_eq_some_iff.1 hg).1).trans hg, r⟩
def mayB (p : Int) (n : Nat) (D : Nat → Int × Int) (m : Nat) (S : Nat → Int) (nb : Nat) (X Y : Nat → Int) (K : Nat → Nat) (V : Nat → Nat → Int) (v : Int) : Bool := bokB p n D m S nb X Y K V && (inB 0 ((n : Int) - 1) v && decide (cntP K V nb v.toNat = 0))
def tagN (p : Int) (n : Nat) (D : Nat → Int × Int) (m : Nat) (S : Nat → Int) (nb : Nat) (X Y : Nat → Int) (K : Nat → Nat) (V : Nat → Nat → Int) : Nat := if bokB p n D m S nb X Y K V = true then n else 0
def TagPost (w : World) (n : Nat) (U : Nat → Int) (e : Ending) (w' : World) : Prop := ∃ s cap, e = .returned (.slice s n cap) ∧ OwnI w.heap.size w' s n U ∧ Below w.heap.size w w'
theorem tag_none {w w' : World} {n : Nat} {U : Nat → Int} {v : Value} {s : Option Addr} {c : Nat} (hn : n = 0) (hv : v = .slice s 0 c) (h : Below w.heap.size w w') : TagPost w n U (.returned v) w' := by
  subst hn hv
  exact ⟨s, c, rfl, fun j hj => by omega, h⟩
set_option maxRecDepth 20000 in
set_option maxHeartbeats 4000000 in
theorem specMayOpen_any (p : Int) (s : Option Addr) (n c : Nat) (D : Nat → Int × Int) (t : Option Addr) (m d : Nat) (S : Nat → Int) (bs : Option Addr) (nb bc : Nat) (X Y : Nat → Int) (K : Nat → Nat) (V : Nat → Nat → Int) (v : Int) (w : World) (hn : (n : Int) ≤ 1048576) (hm : (m : Int) ≤ 1048576) (HD : Hid (RowDuct w s n D)) (HS : Hid (RowI w t m S)) (hb : (nb : Int) ≤ 1048576) (hc : nb ≤ bc) (hK : Hid (∀ i, i < nb → (K i : Int) ≤ 1048576)) (HB : Hid (RowPer w bs nb X Y K V)) :
    Calls Try.prog 28 #[.agg #[.int .i64 p, .slice s n c, .slice t m d], .agg #[.slice bs nb bc], .int .i64 v] w fun e w' => e = .returned (.bool (mayB p n D m S nb X Y K V v)) ∧ Below w.heap.size w w' := by
  go_enter Try.func28, Try.ntmps28
  go_wp2_with fail
  obtain ⟨wd, hwd⟩ : ∃ wd, wd = (w.alloc (.cells #[.int .i64 p, .slice s n c, .slice t m d] 30)).alloc (.cells #[.slice bs nb bc] 45) := ⟨_, rfl⟩
  rw [← hwd]
  have B0 : Below w.heap.size w wd := by rw [hwd]; exact (by repeat (first | with_reducible exact Below.refl _ _ | with_reducible refine Below.setCell ?_ (by first | omega | (simp; done) | (simp; omega)) _ | with_reducible refine bDrewN ?_ _ | with_reducible refine Below.drew ?_ | with_reducible refine Below.alloc ?_ (by first | omega | (simp; done) | (simp; omega)) _))
  have r0 : wd.cell? ⟨w.heap.size, 0, none⟩ = some (.int .i64 p) := by rw [hwd]; simp [go_sem]
  have r1 : wd.cell? ⟨w.heap.size, 1, none⟩ = some (.slice s n c) := by rw [hwd]; simp [go_sem]
  have r2 : wd.cell? ⟨w.heap.size, 2, none⟩ = some (.slice t m d) := by rw [hwd]; simp [go_sem]
  have rb : wd.cell? ⟨w.heap.size + 1, 0, none⟩ = some (.slice bs nb bc) := by rw [hwd]; simp [go_sem]
  have HZD : Hid (wd.heap.size = w.heap.size + 1 + 1) := by show wd.heap.size = _; rw [hwd]; simp
  have zd : w.heap.size + 1 < wd.heap.size := by have := HZD.out; omega
  have zn : w.heap.size < wd.heap.size := by omega
  clear hwd
  refine (specBookOk_any p s n c D t m d S bs nb bc X Y K V _ hn hm (HD.out.below B0) (HS.out.below B0) hK (HB.out.below B0)).mono ?_
  rintro e w1 ⟨rfl, h1⟩
  replace r0 := keep1 r0 zn h1
  replace r1 := keep1 r1 zn h1
  replace r2 := keep1 r2 zn h1
  replace rb := keep1 rb zd h1
  replace zd := Nat.lt_of_lt_of_le zd h1.size
  replace zn := Nat.lt_of_lt_of_le zn h1.size
  replace B0 : Below w.heap.size w w1 := B0.trans (h1.mono B0.size)
  clear h1
  cases e0 : bokB p n D m S nb X Y K V
  · have HO : Hid (mayB p n D m S nb X Y K V v = false) := by show _ = _; unfold mayB; rw [e0]; rfl
    go_wp2
    go_ret
    exact ⟨ret_bool HO.out.symm, (by repeat (first | with_reducible exact Below.refl _ _ | with_reducible exact B0 | with_reducible refine Below.setCell ?_ (by first | omega | (simp; done) | (simp; omega)) _ | with_reducible refine bDrewN ?_ _ | with_reducible refine Below.drew ?_ | with_reducible refine Below.alloc ?_ (by first | omega | (simp; done) | (simp; omega)) _))⟩
  obtain ⟨hN, nb20, -⟩ := bok_yes e0
  obtain ⟨-, n40, -, -, -⟩ := net_yes hN
  have HBK : Hid (bokB p n D m S nb X Y K V = true) := e0
  have n2 : (n : Int) ≤ 40 := by omega
  clear e0 hN
  go_wp2_with fail
  refine (l1In_is _ _ _ _).mono ?_
  rintro e w1 ⟨rfl, rfl⟩
  cases e1 : inB 0 ((n : Int) - 1) v
  · have HO : Hid (mayB p n D m S nb X Y K V v = false) := by show _ = _; unfold mayB; rw [HBK.out, e1]; rfl
    go_wp2
    go_ret
    exact ⟨ret_bool HO.out.symm, (by repeat (first | with_reducible exact Below.refl _ _ | with_reducible exact B0 | with_reducible refine Below.setCell ?_ (by first | omega | (simp; done) | (simp; omega)) _ | with_reducible refine bDrewN ?_ _ | with_reducible refine Below.drew ?_ | with_reducible refine Below.alloc ?_ (by first | omega | (simp; done) | (simp; omega)) _))⟩
  obtain ⟨v0, v1⟩ := inB_yes e1
  obtain ⟨v, rfl⟩ : ∃ y : Nat, v = (y : Int) := ⟨v.toNat, by omega⟩
  have HO : Hid (mayB p n D m S nb X Y K V (v : Int) = decide (cntP K V nb v = 0)) := by show _ = _; unfold mayB; rw [HBK.out, e1, Int.toNat_natCast]; rfl
  clear e1
  go_wp2_with fail
  refine (l22Tags_any bs nb bc X Y K V v _ (by omega) hK (HB.out.below B0)).mono ?_
  rintro e w3 ⟨rfl, h1⟩
  have B3 : Below w.heap.size w w3 := B0.trans (h1.mono B0.size)
  obtain ⟨q, hq⟩ : ∃ q, cntP K V nb v = q := ⟨_, rfl⟩
  rw [hq] at HO ⊢
  clear hq h1
  by_cases z : q = 0
  · have z1 : (q == 0) = true := by rw [z]; rfl
    have HO2 : Hid (mayB p n D m S nb X Y K V (v : Int) = true) := HO.out.trans (decide_eq_true z)
    clear z
    go_wp2
    go_ret
    exact ⟨ret_bool HO2.out.symm, (by repeat (first | with_reducible exact Below.refl _ _ | with_reducible exact B3 | with_reducible refine Below.setCell ?_ (by first | omega | (simp; done) | (simp; omega)) _ | with_reducible refine bDrewN ?_ _ | with_reducible refine Below.drew ?_ | with_reducible refine Below.alloc ?_ (by first | omega | (simp; done) | (simp; omega)) _))⟩
  · have z1 : (q == 0) = false := by simpa using z
    have HO2 : Hid (mayB p n D m S nb X Y K V (v : Int) = false) := HO.out.trans (decide_eq_false z)
    clear z
    go_wp2
    go_ret
    exact ⟨ret_bool HO2.out.symm, (by repeat (first | with_reducible exact Below.refl _ _ | with_reducible exact B3 | with_reducible refine Below.setCell ?_ (by first | omega | (simp; done) | (simp; omega)) _ | with_reducible refine bDrewN ?_ _ | with_reducible refine Below.drew ?_ | with_reducible refine Below.alloc ?_ (by first | omega | (simp; done) | (simp; omega)) _))⟩
set_option maxRecDepth 20000 in
set_option maxHeartbeats 4000000 in
theorem implMayOpen_any (p : Int) (s : Option Addr) (n c : Nat) (D : Nat → Int × Int) (t : Option Addr) (m d : Nat) (S : Nat → Int) (bs : Option Addr) (nb bc : Nat) (X Y : Nat → Int) (K : Nat → Nat) (V : Nat → Nat → Int) (v : Int) (w : World) (hn : (n : Int) ≤ 1048576) (hm : (m : Int) ≤ 1048576) (HD : Hid (RowDuct w s n D)) (HS : Hid (RowI w t m S)) (hb : (nb : Int) ≤ 1048576) (hc : nb ≤ bc) (hK : Hid (∀ i, i < nb → (K i : Int) ≤ 1048576)) (HB : Hid (RowPer w bs nb X Y K V)) :
    Calls Try.prog 29 #[.agg #[.int .i64 p, .slice s n c, .slice t m d], .agg #[.slice bs nb bc], .int .i64 v] w fun e w' => e = .returned (.bool (mayB p n D m S nb X Y K V v)) ∧ Below w.heap.size w w' := by
  go_enter Try.func29, Try.ntmps29
  go_wp2_with fail
  obtain ⟨wd, hwd⟩ : ∃ wd, wd = (w.alloc (.cells #[.int .i64 p, .slice s n c, .slice t m d] 30)).alloc (.cells #[.slice bs nb bc] 45) := ⟨_, rfl⟩
  rw [← hwd]
  have B0 : Below w.heap.size w wd := by rw [hwd]; exact (by repeat (first | with_reducible exact Below.refl _ _ | with_reducible refine Below.setCell ?_ (by first | omega | (simp; done) | (simp; omega)) _ | with_reducible refine bDrewN ?_ _ | with_reducible refine Below.drew ?_ | with_reducible refine Below.alloc ?_ (by first | omega | (simp; done) | (simp; omega)) _))
  have r0 : wd.cell? ⟨w.heap.size, 0, none⟩ = some (.int .i64 p) := by rw [hwd]; simp [go_sem]
  have r1 : wd.cell? ⟨w.heap.size, 1, none⟩ = some (.slice s n c) := by rw [hwd]; simp [go_sem]
  have r2 : wd.cell? ⟨w.heap.size, 2, none⟩ = some (.slice t m d) := by rw [hwd]; simp [go_sem]
  have rb : wd.cell? ⟨w.heap.size + 1, 0, none⟩ = some (.slice bs nb bc) := by rw [hwd]; simp [go_sem]
  have HZD : Hid (wd.heap.size = w.heap.size + 1 + 1) := by show wd.heap.size = _; rw [hwd]; simp
  have zd : w.heap.size + 1 < wd.heap.size := by have := HZD.out; omega
  have zn : w.heap.size < wd.heap.size := by omega
  clear hwd
  refine (implBookOk_any p s n c D t m d S bs nb bc X Y K V _ hn hm (HD.out.below B0) (HS.out.below B0) hb hc hK (HB.out.below B0)).mono ?_
  rintro e w1 ⟨rfl, h1⟩
  replace r0 := keep1 r0 zn h1
  replace r1 := keep1 r1 zn h1
  replace r2 := keep1 r2 zn h1
  replace rb := keep1 rb zd h1
  replace zd := Nat.lt_of_lt_of_le zd h1.size
  replace zn := Nat.lt_of_lt_of_le zn h1.size
  replace B0 : Below w.heap.size w w1 := B0.trans (h1.mono B0.size)
  clear h1
  cases e0 : bokB p n D m S nb X Y K V
  · have HO : Hid (mayB p n D m S nb X Y K V v = false) := by show _ = _; unfold mayB; rw [e0]; rfl
    go_wp2
    go_ret
    exact ⟨ret_bool HO.out.symm, (by repeat (first | with_reducible exact Below.refl _ _ | with_reducible exact B0 | with_reducible refine Below.setCell ?_ (by first | omega | (simp; done) | (simp; omega)) _ | with_reducible refine bDrewN ?_ _ | with_reducible refine Below.drew ?_ | with_reducible refine Below.alloc ?_ (by first | omega | (simp; done) | (simp; omega)) _))⟩
  obtain ⟨hN, nb20, -⟩ := bok_yes e0
  obtain ⟨-, n40, -, -, -⟩ := net_yes hN
  have HBK : Hid (bokB p n D m S nb X Y K V = true) := e0
  have n2 : (n : Int) ≤ 40 := by omega
  clear e0 hN
  go_wp2_with fail
  refine (isValve_any p s n c D t m d S v _ n40).mono ?_
  rintro e w2 ⟨rfl, h1⟩
  replace r0 := keep1 r0 zn h1
  replace r1 := keep1 r1 zn h1
  replace r2 := keep1 r2 zn h1
  replace rb := keep1 rb zd h1
  replace zd := Nat.lt_of_lt_of_le zd h1.size
  replace zn := Nat.lt_of_lt_of_le zn h1.size
  replace B0 : Below w.heap.size w w2 := B0.trans (h1.mono B0.size)
  clear h1
  cases e1 : inB 0 ((n : Int) - 1) v
  · have HO : Hid (mayB p n D m S nb X Y K V v = false) := by show _ = _; unfold mayB; rw [HBK.out, e1]; rfl
    go_wp2
    go_ret
    exact ⟨ret_bool HO.out.symm, (by repeat (first | with_reducible exact Below.refl _ _ | with_reducible exact B0 | with_reducible refine Below.setCell ?_ (by first | omega | (simp; done) | (simp; omega)) _ | with_reducible refine bDrewN ?_ _ | with_reducible refine Below.drew ?_ | with_reducible refine Below.alloc ?_ (by first | omega | (simp; done) | (simp; omega)) _))⟩
  obtain ⟨v0, v1⟩ := inB_yes e1
  obtain ⟨v, rfl⟩ : ∃ y : Nat, v = (y : Int) := ⟨v.toNat, by omega⟩
  have HO : Hid (mayB p n D m S nb X Y K V (v : Int) = decide (cntP K V nb v = 0)) := by show _ = _; unfold mayB; rw [HBK.out, e1, Int.toNat_natCast]; rfl
  clear e1
  go_wp2_with fail
  refine (tags_any bs nb bc X Y K V p s n c D t m d S _ HBK hK (HB.out.below B0)).mono ?_
  rintro e w3 ⟨g, rfl, O3, zg, h1⟩
  have B3 : Below w.heap.size w w3 := B0.trans (h1.mono B0.size)
  obtain ⟨b', e', -, -, cv, -⟩ := O3 v (by omega)
  cases e'
  have vn : (v : Int) < (n : Int) := by omega
  obtain ⟨q, hq⟩ : ∃ q, cntP K V nb v = q := ⟨_, rfl⟩
  rw [hq] at HO cv
  clear hq h1 O3
  by_cases z : q = 0
  · have z1 : (q == 0) = true := by rw [z]; rfl
    have HO2 : Hid (mayB p n D m S nb X Y K V (v : Int) = true) := HO.out.trans (decide_eq_true z)
    clear z
    go_wp2
    go_ret
    exact ⟨ret_bool HO2.out.symm, (by repeat (first | with_reducible exact Below.refl _ _ | with_reducible exact B3 | with_reducible refine Below.setCell ?_ (by first | omega | (simp; done) | (simp; omega)) _ | with_reducible refine bDrewN ?_ _ | with_reducible refine Below.drew ?_ | with_reducible refine Below.alloc ?_ (by first | omega | (simp; done) | (simp; omega)) _))⟩
  · have z1 : (q == 0) = false := by simpa using z
    have HO2 : Hid (mayB p n D m S nb X Y K V (v : Int) = false) := HO.out.trans (decide_eq_false z)
    clear z
    go_wp2
    go_ret
    exact ⟨ret_bool HO2.out.symm, (by repeat (first | with_reducible exact Below.refl _ _ | with_reducible exact B3 | with_reducible refine Below.setCell ?_ (by first | omega | (simp; done) | (simp; omega)) _ | with_reducible refine bDrewN ?_ _ | with_reducible refine Below.drew ?_ | with_reducible refine Below.alloc ?_ (by first | omega | (simp; done) | (simp; omega)) _))⟩
set_option maxRecDepth 20000 in
set_option maxHeartbeats 4000000 in
theorem implTags_any (p : Int) (s : Option Addr) (n c : Nat) (D : Nat → Int × Int) (t : Option Addr) (m d : Nat) (S : Nat → Int) (bs : Option Addr) (nb bc : Nat) (X Y : Nat → Int) (K : Nat → Nat) (V : Nat → Nat → Int) (w : World) (hn : (n : Int) ≤ 1048576) (hm : (m : Int) ≤ 1048576) (HD : Hid (RowDuct w s n D)) (HS : Hid (RowI w t m S)) (hb : (nb : Int) ≤ 1048576) (hc : nb ≤ bc) (hK : Hid (∀ i, i < nb → (K i : Int) ≤ 1048576)) (HB : Hid (RowPer w bs nb X Y K V)) :
    Calls Try.prog 23 #[.agg #[.int .i64 p, .slice s n c, .slice t m d], .agg #[.slice bs nb bc]] w fun e w' => TagPost w (tagN p n D m S nb X Y K V) (cntP K V nb) e w' := by
  go_enter Try.func23, Try.ntmps23
  go_wp2_with fail
  obtain ⟨wd, hwd⟩ : ∃ wd, wd = (w.alloc (.cells #[.int .i64 p, .slice s n c, .slice t m d] 30)).alloc (.cells #[.slice bs nb bc] 45) := ⟨_, rfl⟩
  rw [← hwd]
  have B0 : Below w.heap.size w wd := by rw [hwd]; exact (by repeat (first | with_reducible exact Below.refl _ _ | with_reducible refine Below.setCell ?_ (by first | omega | (simp; done) | (simp; omega)) _ | with_reducible refine bDrewN ?_ _ | with_reducible refine Below.drew ?_ | with_reducible refine Below.alloc ?_ (by first | omega | (simp; done) | (simp; omega)) _))
  have r0 : wd.cell? ⟨w.heap.size, 0, none⟩ = some (.int .i64 p) := by rw [hwd]; simp [go_sem]
  have r1 : wd.cell? ⟨w.heap.size, 1, none⟩ = some (.slice s n c) := by rw [hwd]; simp [go_sem]
  have r2 : wd.cell? ⟨w.heap.size, 2, none⟩ = some (.slice t m d) := by rw [hwd]; simp [go_sem]
  have rb : wd.cell? ⟨w.heap.size + 1, 0, none⟩ = some (.slice bs nb bc) := by rw [hwd]; simp [go_sem]
  have HZD : Hid (wd.heap.size = w.heap.size + 1 + 1) := by show wd.heap.size = _; rw [hwd]; simp
  have zd : w.heap.size + 1 < wd.heap.size := by have := HZD.out; omega
  have zn : w.heap.size < wd.heap.size := by omega
  clear hwd
  refine (implBookOk_any p s n c D t m d S bs nb bc X Y K V _ hn hm (HD.out.below B0) (HS.out.below B0) hb hc hK (HB.out.below B0)).mono ?_
  rintro e w1 ⟨rfl, h1⟩
  replace r0 := keep1 r0 zn h1
  replace r1 := keep1 r1 zn h1
  replace r2 := keep1 r2 zn h1
  replace rb := keep1 rb zd h1
  replace zd := Nat.lt_of_lt_of_le zd h1.size
  replace zn := Nat.lt_of_lt_of_le zn h1.size
  replace B0 : Below w.heap.size w w1 := B0.trans (h1.mono B0.size)
  clear h1
  cases e0 : bokB p n D m S nb X Y K V
  · have HO : Hid (tagN p n D m S nb X Y K V = 0) := by show _ = _; unfold tagN; rw [e0]; rfl
    go_wp2
    go_ret
    exact tag_none HO.out rfl (by repeat (first | with_reducible exact Below.refl _ _ | with_reducible exact B0 | with_reducible refine Below.setCell ?_ (by first | omega | (simp; done) | (simp; omega)) _ | with_reducible refine bDrewN ?_ _ | with_reducible refine Below.drew ?_ | with_reducible refine Below.alloc ?_ (by first | omega | (simp; done) | (simp; omega)) _))
  have HO : Hid (tagN p n D m S nb X Y K V = n) := by show _ = _; unfold tagN; rw [e0]; rfl
  have HBK : Hid (bokB p n D m S nb X Y K V = true) := e0
  clear e0
  go_wp2_with fail
  refine (tags_any bs nb bc X Y K V p s n c D t m d S _ HBK hK (HB.out.below B0)).mono ?_
  rintro e w3 ⟨g, rfl, O3, zg, h1⟩
  have B3 : Below w.heap.size w w3 := B0.trans (h1.mono B0.size)
  have O4 : Hid (OwnI w.heap.size w3 (some ⟨g, 0, none⟩) n (cntP K V nb)) := O3.mono B0.size
  clear O3 h1
  go_wp2
  go_ret
  rw [HO.out]
  exact ⟨_, _, rfl, O4.out, B3⟩
set_option maxRecDepth 20000 in
set_option maxHeartbeats 8000000 in
theorem specTags_any (p : Int) (s : Option Addr) (n c : Nat) (D : Nat → Int × Int) (t : Option Addr) (m d : Nat) (S : Nat → Int) (bs : Option Addr) (nb bc : Nat) (X Y : Nat → Int) (K : Nat → Nat) (V : Nat → Nat → Int) (w : World) (hn : (n : Int) ≤ 1048576) (hm : (m : Int) ≤ 1048576) (HD : Hid (RowDuct w s n D)) (HS : Hid (RowI w t m S)) (hb : (nb : Int) ≤ 1048576) (hc : nb ≤ bc) (hK : Hid (∀ i, i < nb → (K i : Int) ≤ 1048576)) (HB : Hid (RowPer w bs nb X Y K V)) :
    Calls Try.prog 22 #[.agg #[.int .i64 p, .slice s n c, .slice t m d], .agg #[.slice bs nb bc]] w fun e w' => TagPost w (tagN p n D m S nb X Y K V) (cntP K V nb) e w' := by
  go_enter Try.func22, Try.ntmps22
  go_upto_region 2 with fail
  obtain ⟨wd, hwd⟩ : ∃ wd, wd = (w.alloc (.cells #[.int .i64 p, .slice s n c, .slice t m d] 30)).alloc (.cells #[.slice bs nb bc] 45) := ⟨_, rfl⟩
  rw [← hwd]
  have B0 : Below w.heap.size w wd := by rw [hwd]; exact (by repeat (first | with_reducible exact Below.refl _ _ | with_reducible refine Below.setCell ?_ (by first | omega | (simp; done) | (simp; omega)) _ | with_reducible refine bDrewN ?_ _ | with_reducible refine Below.drew ?_ | with_reducible refine Below.alloc ?_ (by first | omega | (simp; done) | (simp; omega)) _))
  have r0 : wd.cell? ⟨w.heap.size, 0, none⟩ = some (.int .i64 p) := by rw [hwd]; simp [go_sem]
  have r1 : wd.cell? ⟨w.heap.size, 1, none⟩ = some (.slice s n c) := by rw [hwd]; simp [go_sem]
  have r2 : wd.cell? ⟨w.heap.size, 2, none⟩ = some (.slice t m d) := by rw [hwd]; simp [go_sem]
  have rb : wd.cell? ⟨w.heap.size + 1, 0, none⟩ = some (.slice bs nb bc) := by rw [hwd]; simp [go_sem]
  have HZD : Hid (wd.heap.size = w.heap.size + 1 + 1) := by show wd.heap.size = _; rw [hwd]; simp
  have zd : w.heap.size + 1 < wd.heap.size := by have := HZD.out; omega
  have zn : w.heap.size < wd.heap.size := by omega
  clear hwd
  have HP : Hid (wd.cell? ⟨w.heap.size, 0, none⟩ = some (.int .i64 p) ∧ wd.cell? ⟨w.heap.size, 1, none⟩ = some (.slice s n c) ∧ wd.cell? ⟨w.heap.size, 2, none⟩ = some (.slice t m d) ∧ wd.cell? ⟨w.heap.size + 1, 0, none⟩ = some (.slice bs nb bc)) := ⟨r0, r1, r2, rb⟩
  have HW : Hid (Below w.heap.size w wd) := B0
  have HM0 : Hid (MadeI wd.heap.size wd (wd.alloc (.cells #[] 2)) (.slice (some ⟨w.heap.size + 1 + 1, 0, none⟩) 0 0) 0 (cntP K V nb)) := by
    rw [← HZD.out]
    exact made_lit wd _ (Nat.le_refl _)
  clear r0 r1 r2 rb B0
  go_wp2_with fail
  go_loopw [5, 6] (fun v i wr => ∃ k : Nat, k ≤ n ∧ i = .int .i64 k ∧ Hid (0 < k → bokB p n D m S nb X Y K V = true) ∧ Hid (MadeI wd.heap.size wd wr v k (cntP K V nb))) (fun _ i _ => n - (intOf i).toNat)
  case atStart => exact ⟨0, Nat.zero_le _, rfl, fun h => by omega, HM0.out⟩
  case round =>
    clear HM0
    obtain ⟨k, hk, rfl, HKB, HM⟩ := hrel
    have HBr : Hid (Below wd.heap.size wd wr) := HM.out.2
    have zB := HBr.out.size
    have r0 := keep1 HP.out.1 zn HBr.out
    have r1 := keep1 HP.out.2.1 zn HBr.out
    have r2 := keep1 HP.out.2.2.1 zn HBr.out
    have rb := keep1 HP.out.2.2.2 zd HBr.out
    have zn2 : w.heap.size < wr.heap.size := by omega
    have zd2 : w.heap.size + 1 < wr.heap.size := by omega
    have B0 : Below w.heap.size w wr := HW.out.trans (HBr.out.mono HW.out.size)
    have HOW : Hid (wr.ownsRow wd.heap.size 2 1 u5 k (vals (cntP K V nb) k)) := HM.out.1
    go_wp2_with fail
    refine (specBookOk_any p s n c D t m d S bs nb bc X Y K V _ hn hm (HD.out.below B0) (HS.out.below B0) hK (HB.out.below B0)).mono ?_
    rintro e w1 ⟨rfl, h1⟩
    replace r1 := keep1 r1 zn2 h1
    replace rb := keep1 rb zd2 h1
    have HB1 : Hid (Below wr.heap.size wr w1) := h1
    have s1 := h1.size
    have B1 : Below w.heap.size w w1 := B0.trans (h1.mono B0.size)
    clear h1
    cases e0 : bokB p n D m S nb X Y K V
    · have HO : Hid (tagN p n D m S nb X Y K V = 0) := by show _ = _; unfold tagN; rw [e0]; rfl
      have k0 : k = 0 := by
        rcases Nat.eq_zero_or_pos k with h | h
        · exact h
        · have := HKB.out h; rw [e0] at this; cases this
      subst k0
      obtain ⟨s', cap, hv, -⟩ := made_own HM.out
      subst hv
      go_wp2
      go_ret
      exact tag_none HO.out rfl (by repeat (first | with_reducible exact Below.refl _ _ | with_reducible exact B1 | with_reducible refine Below.setCell ?_ (by first | omega | (simp; done) | (simp; omega)) _ | with_reducible refine bDrewN ?_ _ | with_reducible refine Below.drew ?_ | with_reducible refine Below.alloc ?_ (by first | omega | (simp; done) | (simp; omega)) _))
    have HO : Hid (tagN p n D m S nb X Y K V = n) := by show _ = _; unfold tagN; rw [e0]; rfl
    obtain ⟨hN, nb20, -⟩ := bok_yes e0
    obtain ⟨-, n40, -, -, -⟩ := net_yes hN
    have HBK : Hid (bokB p n D m S nb X Y K V = true) := e0
    have n2 : (n : Int) ≤ 40 := by omega
    clear e0 hN
    by_cases h2 : k < n
    · have k1 : (k : Int) < (n : Int) := by omega
      go_wp2_with fail
      refine (l22Tags_any bs nb bc X Y K V k _ (by omega) hK (HB.out.below B1)).mono ?_
      rintro e w2 ⟨rfl, h1⟩
      have HB2 : Hid (Below wr.heap.size wr w2) := HB1.out.trans (h1.mono HB1.out.size)
      have s2 := HB2.out.size
      have HO2 : Hid (w2.ownsRow wd.heap.size 2 1 u5 k (vals (cntP K V nb) k)) := own_sameT HOW.out HB2.out
      clear h1
      go_wp2_with (at_builtin; refine list_i64 wd.heap.size u5 k (vals (cntP K V nb) k) (.tmp 20) (.tmp 24) (by rfl) (by rfl) (by rfl) (by rfl) HO2.out (by omega) (by omega) ?_; intro g' cap' w7 hown7 hgrow7 hlt7)
      go_roundw
      case rel => exact ⟨k + 1, by omega, by go_num, fun _ => HBK.out, made_on HM.out HB2.out zB hown7 hgrow7⟩
      case measure => first | (simp [intOf]; done) | (simp [intOf]; omega)
    · obtain rfl : k = n := by omega
      obtain ⟨s', cap, hv, O⟩ := made_own HM.out
      subst hv
      have O2 : Hid (OwnI w.heap.size w1 s' k (cntP K V nb)) := (O.mono (by omega)).below HB1.out
      clear O
      go_wp2
      go_ret
      rw [HO.out]
      exact ⟨_, _, rfl, O2.out, B1⟩
end Go.Proofs.Ytabmkklnbaomnaa
