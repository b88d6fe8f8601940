/-
What is proved: tags, and whether a valve may be opened, as both packages say it.
-/
import Derived.Test.YtikcfpjfcpbfcaaTgIz
import Derived.Test.YtikcfpjfcpbfcaaZcC
namespace Go.Proofs.Ytikcfpjfcpbfcaa
set_option maxRecDepth 40000
open Go.ChangeShapes Go.WideShapes Go.ChangeAt Go.RowKit
set_option linter.unusedVariables false
set_option linter.unusedSimpArgs false

def mayB (p : Int) (n : Nat) (D : Nat → Int × Int) (m : Nat) (S : Nat → Int) (nb : Nat) (X Y : Nat → Int) (K : Nat → Nat) (V : Nat → Nat → Int) (v : Int) : Bool := bokB p n D m S nb X Y K V && (inB 0 ((n : Int) - 1) v && decide (cntP K V nb v.toNat = 0))
def tagN (p : Int) (n : Nat) (D : Nat → Int × Int) (m : Nat) (S : Nat → Int) (nb : Nat) (X Y : Nat → Int) (K : Nat → Nat) (V : Nat → Nat → Int) : Nat := if bokB p n D m S nb X Y K V = true then n else 0
def TagPost (w : World) (n : Nat) (U : Nat → Int) (e : Ending) (w' : World) : Prop := ∃ s cap, e = .returned (.slice s n cap) ∧ OwnI w.heap.size w' s n U ∧ Below w.heap.size w w'
theorem tag_none {w w' : World} {n : Nat} {U : Nat → Int} {v : Value} {s : Option Addr} {c : Nat} (hn : n = 0) (hv : v = .slice s 0 c) (h : Below w.heap.size w w') : TagPost w n U (.returned v) w' := by
  subst hn hv
  exact ⟨s, c, rfl, fun j hj => by omega, h⟩
set_option maxRecDepth 20000 in
set_option maxHeartbeats 4000000 in
theorem implMayOpen_any (p : Int) (s : Option Addr) (n c : Nat) (D : Nat → Int × Int) (t : Option Addr) (m d : Nat) (S : Nat → Int) (bs : Option Addr) (nb bc : Nat) (X Y : Nat → Int) (K : Nat → Nat) (V : Nat → Nat → Int) (v : Int) (w : World) (hn : (n : Int) ≤ 1048576) (hm : (m : Int) ≤ 1048576) (HD : Hid (RowDuct w s n D)) (HS : Hid (RowI w t m S)) (hb : (nb : Int) ≤ 1048576) (hc : nb ≤ bc) (hK : Hid (∀ i, i < nb → (K i : Int) ≤ 1048576)) (HB : Hid (RowPer w bs nb X Y K V)) :
    Calls Try.prog 39 #[.agg #[.int .i64 p, .slice s n c, .slice t m d], .agg #[.slice bs nb bc], .int .i64 v] w fun e w' => e = .returned (.bool (mayB p n D m S nb X Y K V v)) ∧ Below w.heap.size w w' := by
  go_enter Try.func39, Try.ntmps39
  go_wp2_with fail
  obtain ⟨wd, hwd⟩ : ∃ wd, wd = (w.alloc (.cells #[.int .i64 p, .slice s n c, .slice t m d] 41)).alloc (.cells #[.slice bs nb bc] 36) := ⟨_, rfl⟩
  rw [← hwd]
  have B0 : Below w.heap.size w wd := by rw [hwd]; exact (by repeat (first | with_reducible exact Below.refl _ _ | with_reducible refine Below.setCell ?_ (by first | omega | (simp; done) | (simp; omega)) _ | with_reducible refine bDrewN ?_ _ | with_reducible refine Below.drew ?_ | with_reducible refine Below.alloc ?_ (by first | omega | (simp; done) | (simp; omega)) _))
  have r0 : wd.cell? ⟨w.heap.size, 0, none⟩ = some (.int .i64 p) := by rw [hwd]; simp [go_sem]
  have r1 : wd.cell? ⟨w.heap.size, 1, none⟩ = some (.slice s n c) := by rw [hwd]; simp [go_sem]
  have r2 : wd.cell? ⟨w.heap.size, 2, none⟩ = some (.slice t m d) := by rw [hwd]; simp [go_sem]
  have rb : wd.cell? ⟨w.heap.size + 1, 0, none⟩ = some (.slice bs nb bc) := by rw [hwd]; simp [go_sem]
  have HZD : Hid (wd.heap.size = w.heap.size + 1 + 1) := by show wd.heap.size = _; rw [hwd]; simp
  have zd : w.heap.size + 1 < wd.heap.size := by have := HZD.out; omega
  have zn : w.heap.size < wd.heap.size := by omega
  clear hwd
  refine (implBookOk_any p s n c D t m d S bs nb bc X Y K V _ hn hm (HD.out.below B0) (HS.out.below B0) hb hc hK (HB.out.below B0)).mono ?_
  rintro e w1 ⟨rfl, h1⟩
  replace r0 := keep1 r0 zn h1
  replace r1 := keep1 r1 zn h1
  replace r2 := keep1 r2 zn h1
  replace rb := keep1 rb zd h1
  replace zd := Nat.lt_of_lt_of_le zd h1.size
  replace zn := Nat.lt_of_lt_of_le zn h1.size
  replace B0 : Below w.heap.size w w1 := B0.trans (h1.mono B0.size)
  clear h1
  cases e0 : bokB p n D m S nb X Y K V
  · have HO : Hid (mayB p n D m S nb X Y K V v = false) := by show _ = _; unfold mayB; rw [e0]; rfl
    go_wp2
    go_ret
    exact ⟨ret_bool HO.out.symm, (by repeat (first | with_reducible exact Below.refl _ _ | with_reducible exact B0 | with_reducible refine Below.setCell ?_ (by first | omega | (simp; done) | (simp; omega)) _ | with_reducible refine bDrewN ?_ _ | with_reducible refine Below.drew ?_ | with_reducible refine Below.alloc ?_ (by first | omega | (simp; done) | (simp; omega)) _))⟩
  obtain ⟨hN, nb20, -⟩ := bok_yes e0
  obtain ⟨-, n40, -, -, -⟩ := net_yes hN
  have HBK : Hid (bokB p n D m S nb X Y K V = true) := e0
  have n2 : (n : Int) ≤ 40 := by omega
  clear e0 hN
  go_wp2_with fail
  refine (isValve_any p s n c D t m d S v _ n40).mono ?_
  rintro e w2 ⟨rfl, h1⟩
  replace r0 := keep1 r0 zn h1
  replace r1 := keep1 r1 zn h1
  replace r2 := keep1 r2 zn h1
  replace rb := keep1 rb zd h1
  replace zd := Nat.lt_of_lt_of_le zd h1.size
  replace zn := Nat.lt_of_lt_of_le zn h1.size
  replace B0 : Below w.heap.size w w2 := B0.trans (h1.mono B0.size)
  clear h1
  cases e1 : inB 0 ((n : Int) - 1) v
  · have HO : Hid (mayB p n D m S nb X Y K V v = false) := by show _ = _; unfold mayB; rw [HBK.out, e1]; rfl
    go_wp2
    go_ret
    exact ⟨ret_bool HO.out.symm, (by repeat (first | with_reducible exact Below.refl _ _ | with_reducible exact B0 | with_reducible refine Below.setCell ?_ (by first | omega | (simp; done) | (simp; omega)) _ | with_reducible refine bDrewN ?_ _ | with_reducible refine Below.drew ?_ | with_reducible refine Below.alloc ?_ (by first | omega | (simp; done) | (simp; omega)) _))⟩
  obtain ⟨v0, v1⟩ := inB_yes e1
  obtain ⟨v, rfl⟩ : ∃ y : Nat, v = (y : Int) := ⟨v.toNat, by omega⟩
  have HO : Hid (mayB p n D m S nb X Y K V (v : Int) = decide (cntP K V nb v = 0)) := by show _ = _; unfold mayB; rw [HBK.out, e1, Int.toNat_natCast]; rfl
  clear e1
  go_wp2_with fail
  refine (tags_any bs nb bc X Y K V p s n c D t m d S _ HBK hK (HB.out.below B0)).mono ?_
  rintro e w3 ⟨g, rfl, O3, zg, h1⟩
  have B3 : Below w.heap.size w w3 := B0.trans (h1.mono B0.size)
  obtain ⟨b', e', -, -, cv, -⟩ := O3 v (by omega)
  cases e'
  have vn : (v : Int) < (n : Int) := by omega
  obtain ⟨q, hq⟩ : ∃ q, cntP K V nb v = q := ⟨_, rfl⟩
  rw [hq] at HO cv
  clear hq h1 O3
  by_cases z : q = 0
  · have z1 : (q == 0) = true := by rw [z]; rfl
    have HO2 : Hid (mayB p n D m S nb X Y K V (v : Int) = true) := HO.out.trans (decide_eq_true z)
    clear z
    go_wp2
    go_ret
    exact ⟨ret_bool HO2.out.symm, (by repeat (first | with_reducible exact Below.refl _ _ | with_reducible exact B3 | with_reducible refine Below.setCell ?_ (by first | omega | (simp; done) | (simp; omega)) _ | with_reducible refine bDrewN ?_ _ | with_reducible refine Below.drew ?_ | with_reducible refine Below.alloc ?_ (by first | omega | (simp; done) | (simp; omega)) _))⟩
  · have z1 : (q == 0) = false := by simpa using z
    have HO2 : Hid (mayB p n D m S nb X Y K V (v : Int) = false) := HO.out.trans (decide_eq_false z)
    clear z
    go_wp2
    go_ret
    exact ⟨ret_bool HO2.out.symm, (by repeat (first | with_reducible exact Below.refl _ _ | with_reducible exact B3 | with_reducible refine Below.setCell ?_ (by first | omega | (simp; done) | (simp; omega)) _ | with_reducible refine bDrewN ?_ _ | with_reducible refine Below.drew ?_ | with_reducible refine Below.alloc ?_ (by first | omega | (simp; done) | (simp; omega)) _))⟩
set_option maxRecDepth 20000 in
set_option maxHeartbeats 4000000 in
theorem implTags_any (p : Int) (s : Option Addr) (n c : Nat) (D : Nat → Int × Int) (t : Option Addr) (m d : Nat) (S : Nat → Int) (bs : Option Addr) (nb bc : Nat) (X Y : Nat → Int) (K : Nat → Nat) (V : Nat → Nat → Int) (w : World) (hn : (n : Int) ≤ 1048576) (hm : (m : Int) ≤ 1048576) (HD : Hid (RowDuct w s n D)) (HS : Hid (RowI w t m S)) (hb : (nb : Int) ≤ 1048576) (hc : nb ≤ bc) (hK : Hid (∀ i, i < nb → (K i : Int) ≤ 1048576)) (HB : Hid (RowPer w bs nb X Y K V)) :
    Calls Try.prog 30 #[.agg #[.int .i64 p, .slice s n c, .slice t m d], .agg #[.slice bs nb bc]] w fun e w' => TagPost w (tagN p n D m S nb X Y K V) (cntP K V nb) e w' := by
  go_enter Try.func30, Try.ntmps30
  go_wp2_with fail
  obtain ⟨wd, hwd⟩ : ∃ wd, wd = (w.alloc (.cells #[.int .i64 p, .slice s n c, .slice t m d] 41)).alloc (.cells #[.slice bs nb bc] 36) := ⟨_, rfl⟩
  rw [← hwd]
  have B0 : Below w.heap.size w wd := by rw [hwd]; exact (by repeat (first | with_reducible exact Below.refl _ _ | with_reducible refine Below.setCell ?_ (by first | omega | (simp; done) | (simp; omega)) _ | with_reducible refine bDrewN ?_ _ | with_reducible refine Below.drew ?_ | with_reducible refine Below.alloc ?_ (by first | omega | (simp; done) | (simp; omega)) _))
  have r0 : wd.cell? ⟨w.heap.size, 0, none⟩ = some (.int .i64 p) := by rw [hwd]; simp [go_sem]
  have r1 : wd.cell? ⟨w.heap.size, 1, none⟩ = some (.slice s n c) := by rw [hwd]; simp [go_sem]
  have r2 : wd.cell? ⟨w.heap.size, 2, none⟩ = some (.slice t m d) := by rw [hwd]; simp [go_sem]
  have rb : wd.cell? ⟨w.heap.size + 1, 0, none⟩ = some (.slice bs nb bc) := by rw [hwd]; simp [go_sem]
  have HZD : Hid (wd.heap.size = w.heap.size + 1 + 1) := by show wd.heap.size = _; rw [hwd]; simp
  have zd : w.heap.size + 1 < wd.heap.size := by have := HZD.out; omega
  have zn : w.heap.size < wd.heap.size := by omega
  clear hwd
  refine (implBookOk_any p s n c D t m d S bs nb bc X Y K V _ hn hm (HD.out.below B0) (HS.out.below B0) hb hc hK (HB.out.below B0)).mono ?_
  rintro e w1 ⟨rfl, h1⟩
  replace r0 := keep1 r0 zn h1
  replace r1 := keep1 r1 zn h1
  replace r2 := keep1 r2 zn h1
  replace rb := keep1 rb zd h1
  replace zd := Nat.lt_of_lt_of_le zd h1.size
  replace zn := Nat.lt_of_lt_of_le zn h1.size
  replace B0 : Below w.heap.size w w1 := B0.trans (h1.mono B0.size)
  clear h1
  cases e0 : bokB p n D m S nb X Y K V
  · have HO : Hid (tagN p n D m S nb X Y K V = 0) := by show _ = _; unfold tagN; rw [e0]; rfl
    go_wp2
    go_ret
    exact tag_none HO.out rfl (by repeat (first | with_reducible exact Below.refl _ _ | with_reducible exact B0 | with_reducible refine Below.setCell ?_ (by first | omega | (simp; done) | (simp; omega)) _ | with_reducible refine bDrewN ?_ _ | with_reducible refine Below.drew ?_ | with_reducible refine Below.alloc ?_ (by first | omega | (simp; done) | (simp; omega)) _))
  have HO : Hid (tagN p n D m S nb X Y K V = n) := by show _ = _; unfold tagN; rw [e0]; rfl
  have HBK : Hid (bokB p n D m S nb X Y K V = true) := e0
  clear e0
  go_wp2_with fail
  refine (tags_any bs nb bc X Y K V p s n c D t m d S _ HBK hK (HB.out.below B0)).mono ?_
  rintro e w3 ⟨g, rfl, O3, zg, h1⟩
  have B3 : Below w.heap.size w w3 := B0.trans (h1.mono B0.size)
  have O4 : Hid (OwnI w.heap.size w3 (some ⟨g, 0, none⟩) n (cntP K V nb)) := O3.mono B0.size
  clear O3 h1
  go_wp2
  go_ret
  rw [HO.out]
  exact ⟨_, _, rfl, O4.out, B3⟩
end Go.Proofs.Ytikcfpjfcpbfcaa
