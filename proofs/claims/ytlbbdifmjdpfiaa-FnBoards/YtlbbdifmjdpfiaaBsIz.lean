/-
What is proved: a step of a board, as the program does it.
-/
import Derived.Test.YtlbbdifmjdpfiaaBsQz
import Derived.Test.YtlbbdifmjdpfiaaBsLz
import Derived.Test.YtlbbdifmjdpfiaaBsRz
namespace Go.Proofs.Ytlbbdifmjdpfiaa
set_option maxRecDepth 40000
open Go.ChangeShapes Go.WideShapes Go.ChangeAt Go.RowKit
set_option linter.unusedVariables false
set_option linter.unusedSimpArgs false

set_option maxRecDepth 20000 in
set_option maxHeartbeats 8000000 in
theorem implBoardStep_any (x : Int) (s : Option Addr) (n c : Nat) (V : Nat → Int × Int × Int × Bool × Int) (mo : Int) (st : Option Addr) (nt ct : Nat) (Th : Nat → Bool) (ss : Option Addr) (ns cs : Nat) (Se : Nat → Int) (sh : Option Addr) (nh ch : Nat) (Sh : Nat → Int × Int) (w : World) (hn : (n : Int) ≤ 1048576) (hnt : (nt : Int) ≤ 1048576) (hns : (ns : Int) ≤ 1048576) (hnh : (nh : Int) ≤ 1048576) (HR : Hid (RowAlarm w s n V)) (HTh : Hid (RowB w st nt Th)) (HSe : Hid (RowI w ss ns Se)) (HSh : Hid (RowShelf w sh nh Sh)) :
    Calls Try.prog 13 #[.agg #[.int .i64 x, .slice s n c], .agg #[.int .i64 mo, .slice st nt ct, .slice ss ns cs, .slice sh nh ch]] w fun e w' => BsPost w x n V mo nt Th ns Se nh Sh e w' := by
  have sto := store_slT
  go_enter Try.func13, Try.ntmps13
  go_upto_region 1 with fail
  obtain ⟨wa, hwa⟩ : ∃ wa, wa = ((w.alloc (.cells #[.int .i64 x, .slice s n c] 26)).alloc (.cells #[.int .i64 mo, .slice st nt ct, .slice ss ns cs, .slice sh nh ch] 39)).alloc (.cells #[.int .i64 0, .slice none 0 0] 26) := ⟨_, rfl⟩
  rw [← hwa]
  have p0 : wa.cell? ⟨w.heap.size, 0, none⟩ = some (.int .i64 x) := by rw [hwa]; simp [go_sem]
  have p1 : wa.cell? ⟨w.heap.size, 1, none⟩ = some (.slice s n c) := by rw [hwa]; simp [go_sem]
  have k0 : wa.cell? ⟨w.heap.size + 1, 0, none⟩ = some (.int .i64 mo) := by rw [hwa]; simp [go_sem]
  have k1 : wa.cell? ⟨w.heap.size + 1, 1, none⟩ = some (.slice st nt ct) := by rw [hwa]; simp [go_sem]
  have k2 : wa.cell? ⟨w.heap.size + 1, 2, none⟩ = some (.slice ss ns cs) := by rw [hwa]; simp [go_sem]
  have k3 : wa.cell? ⟨w.heap.size + 1, 3, none⟩ = some (.slice sh nh ch) := by rw [hwa]; simp [go_sem]
  have r0 : wa.cell? ⟨w.heap.size + 1 + 1, 0, none⟩ = some (.int .i64 0) := by rw [hwa]; simp [go_sem]
  have r1 : wa.cell? ⟨w.heap.size + 1 + 1, 1, none⟩ = some (.slice none 0 0) := by rw [hwa]; simp [go_sem]
  have fr : ∀ o, wa.frozen? ⟨w.heap.size + 1 + 1, o, none⟩ = false := by intro o; rw [hwa]; simp [go_sem]
  have z2 : w.heap.size + 1 + 1 < wa.heap.size := by rw [hwa]; simp
  have z1 : w.heap.size + 1 < wa.heap.size := by omega
  have z0 : w.heap.size < wa.heap.size := by omega
  have B0 : Below w.heap.size w wa := by rw [hwa]; exact (by repeat (first | with_reducible exact Below.refl _ _ | with_reducible refine Below.setCell ?_ (by first | omega | (simp; done) | (simp; omega)) _ | with_reducible refine bDrewN ?_ _ | with_reducible refine Below.drew ?_ | with_reducible refine Below.alloc ?_ (by first | omega | (simp; done) | (simp; omega)) _))
  have HE : Hid (stpB x n V mo nt ns Se nh Sh = (boardB x n V && (scnB n mo nt ns Se nh Sh && !decide (x = 1000000000)))) := rfl
  clear hwa
  go_wp2_with fail
  refine (implBoardOk_any x s n c V _ hn (HR.out.below B0)).mono ?_
  rintro e w1 ⟨rfl, h1⟩
  replace p0 := (h1.cell (p := ⟨w.heap.size, 0, none⟩) z0).trans p0
  replace p1 := (h1.cell (p := ⟨w.heap.size, 1, none⟩) z0).trans p1
  replace k0 := (h1.cell (p := ⟨w.heap.size + 1, 0, none⟩) z1).trans k0
  replace k1 := (h1.cell (p := ⟨w.heap.size + 1, 1, none⟩) z1).trans k1
  replace k2 := (h1.cell (p := ⟨w.heap.size + 1, 2, none⟩) z1).trans k2
  replace k3 := (h1.cell (p := ⟨w.heap.size + 1, 3, none⟩) z1).trans k3
  replace r0 := (h1.cell (p := ⟨w.heap.size + 1 + 1, 0, none⟩) z2).trans r0
  replace r1 := (h1.cell (p := ⟨w.heap.size + 1 + 1, 1, none⟩) z2).trans r1
  replace fr : ∀ o, w1.frozen? ⟨w.heap.size + 1 + 1, o, none⟩ = false := fun o => (h1.frozen (p := ⟨w.heap.size + 1 + 1, o, none⟩) z2).trans (fr o)
  replace z2 := Nat.lt_of_lt_of_le z2 h1.size
  replace z1 := Nat.lt_of_lt_of_le z1 h1.size
  replace z0 := Nat.lt_of_lt_of_le z0 h1.size
  replace B0 : Below w.heap.size w w1 := B0.trans (h1.mono B0.size)
  clear h1
  cases b0 : boardB x n V
  · have HO : Hid (stpB x n V mo nt ns Se nh Sh = false) := by show _ = _; rw [HE.out, b0]; rfl
    go_wp2
    exact bodyPost_ret (v := .tuple #[.agg #[.int .i64 0, .slice none 0 0], .slice none 0 0, .bool false]) (by simp [results, Try.results13, go_sem, r0, r1]) rfl (bs_no HO.out (by repeat (first | with_reducible exact Below.refl _ _ | with_reducible exact B0 | with_reducible refine Below.setCell ?_ (by first | omega | (simp; done) | (simp; omega)) _ | with_reducible refine bDrewN ?_ _ | with_reducible refine Below.drew ?_ | with_reducible refine Below.alloc ?_ (by first | omega | (simp; done) | (simp; omega)) _)))
  go_wp2_with fail
  refine (rightFor_any x s n c V mo st nt ct Th ss ns cs Se sh nh ch Sh _ hn hns hnh (HSe.out.below B0) (HSh.out.below B0)).mono ?_
  rintro e w2 ⟨rfl, h2⟩
  replace p0 := (h2.cell (p := ⟨w.heap.size, 0, none⟩) z0).trans p0
  replace p1 := (h2.cell (p := ⟨w.heap.size, 1, none⟩) z0).trans p1
  replace k0 := (h2.cell (p := ⟨w.heap.size + 1, 0, none⟩) z1).trans k0
  replace k1 := (h2.cell (p := ⟨w.heap.size + 1, 1, none⟩) z1).trans k1
  replace k2 := (h2.cell (p := ⟨w.heap.size + 1, 2, none⟩) z1).trans k2
  replace k3 := (h2.cell (p := ⟨w.heap.size + 1, 3, none⟩) z1).trans k3
  replace r0 := (h2.cell (p := ⟨w.heap.size + 1 + 1, 0, none⟩) z2).trans r0
  replace r1 := (h2.cell (p := ⟨w.heap.size + 1 + 1, 1, none⟩) z2).trans r1
  replace fr : ∀ o, w2.frozen? ⟨w.heap.size + 1 + 1, o, none⟩ = false := fun o => (h2.frozen (p := ⟨w.heap.size + 1 + 1, o, none⟩) z2).trans (fr o)
  replace z2 := Nat.lt_of_lt_of_le z2 h2.size
  replace z1 := Nat.lt_of_lt_of_le z1 h2.size
  replace z0 := Nat.lt_of_lt_of_le z0 h2.size
  replace B0 : Below w.heap.size w w2 := B0.trans (h2.mono B0.size)
  clear h2
  cases b1 : scnB n mo nt ns Se nh Sh
  · have HO : Hid (stpB x n V mo nt ns Se nh Sh = false) := by show _ = _; rw [HE.out, b0, b1]; rfl
    go_wp2
    exact bodyPost_ret (v := .tuple #[.agg #[.int .i64 0, .slice none 0 0], .slice none 0 0, .bool false]) (by simp [results, Try.results13, go_sem, r0, r1]) rfl (bs_no HO.out (by repeat (first | with_reducible exact Below.refl _ _ | with_reducible exact B0 | with_reducible refine Below.setCell ?_ (by first | omega | (simp; done) | (simp; omega)) _ | with_reducible refine bDrewN ?_ _ | with_reducible refine Below.drew ?_ | with_reducible refine Below.alloc ?_ (by first | omega | (simp; done) | (simp; omega)) _)))
  by_cases b2 : x = 1000000000
  · have b2' : (x == 1000000000) = true := by simpa using b2
    have HO : Hid (stpB x n V mo nt ns Se nh Sh = false) := by show _ = _; rw [HE.out, b0, b1, decide_eq_true b2]; rfl
    clear b2
    go_wp2
    exact bodyPost_ret (v := .tuple #[.agg #[.int .i64 0, .slice none 0 0], .slice none 0 0, .bool false]) (by simp [results, Try.results13, go_sem, r0, r1]) rfl (bs_no HO.out (by repeat (first | with_reducible exact Below.refl _ _ | with_reducible exact B0 | with_reducible refine Below.setCell ?_ (by first | omega | (simp; done) | (simp; omega)) _ | with_reducible refine bDrewN ?_ _ | with_reducible refine Below.drew ?_ | with_reducible refine Below.alloc ?_ (by first | omega | (simp; done) | (simp; omega)) _)))
  have b2' : (x == 1000000000) = false := by simpa using b2
  have HO : Hid (stpB x n V mo nt ns Se nh Sh = true) := by show _ = _; rw [HE.out, b0, b1, decide_eq_false b2]; rfl
  have HTy : Hid (tidy n V) := tidy_board b0
  obtain ⟨⟨x0, x1⟩, n60, -⟩ := board_yes b0
  have hn2 : (n : Int) ≤ 60 := by omega
  have x2 : x + 1 ≤ 1000000000 := by omega
  obtain ⟨ms, mnt, mns, mall, msh⟩ : inB 0 7 mo = true ∧ nt = n ∧ ns ≤ 60 ∧ allInB 0 ((n : Int) - 1) Se ns = true ∧ shsB n nh Sh = true := by
    unfold scnB at b1
    simp only [Bool.and_eq_true, decide_eq_true_iff] at b1
    exact ⟨b1.1, b1.2.1, b1.2.2.1, b1.2.2.2.1, b1.2.2.2.2⟩
  obtain ⟨m0, m1⟩ := inB_yes ms
  have hall := allIn_yes mall.symm
  obtain ⟨nh60, hsh⟩ : nh ≤ 60 ∧ ∀ j, j < nh → shfB n (Sh j) = true := by
    unfold shsB at msh
    simp only [Bool.and_eq_true, decide_eq_true_iff] at msh
    exact msh
  have HAll : Hid (∀ j, j < ns → 0 ≤ Se j ∧ Se j ≤ (n : Int) - 1) := hall
  have HShs : Hid (∀ j, j < nh → shfB n (Sh j) = true) := hsh
  have hns2 : (ns : Int) ≤ 60 := by omega
  have hnh2 : (nh : Int) ≤ 60 := by omega
  clear b0 b1 b2 ms mall msh hall hsh HE
  go_wp2_with fail
  refine (copied_any x s n c V _ hn2 (HR.out.below B0)).mono ?_
  rintro e w3 ⟨b, rfl, hb, hA, h3⟩
  have lo : w.heap.size + 1 + 1 < b := by omega
  replace p0 := (h3.cell (p := ⟨w.heap.size, 0, none⟩) z0).trans p0
  replace p1 := (h3.cell (p := ⟨w.heap.size, 1, none⟩) z0).trans p1
  replace k0 := (h3.cell (p := ⟨w.heap.size + 1, 0, none⟩) z1).trans k0
  replace k1 := (h3.cell (p := ⟨w.heap.size + 1, 1, none⟩) z1).trans k1
  replace k2 := (h3.cell (p := ⟨w.heap.size + 1, 2, none⟩) z1).trans k2
  replace k3 := (h3.cell (p := ⟨w.heap.size + 1, 3, none⟩) z1).trans k3
  replace r0 := (h3.cell (p := ⟨w.heap.size + 1 + 1, 0, none⟩) z2).trans r0
  replace r1 := (h3.cell (p := ⟨w.heap.size + 1 + 1, 1, none⟩) z2).trans r1
  replace fr : ∀ o, w3.frozen? ⟨w.heap.size + 1 + 1, o, none⟩ = false := fun o => (h3.frozen (p := ⟨w.heap.size + 1 + 1, o, none⟩) z2).trans (fr o)
  replace z2 := Nat.lt_of_lt_of_le z2 h3.size
  replace z1 := Nat.lt_of_lt_of_le z1 h3.size
  replace z0 := Nat.lt_of_lt_of_le z0 h3.size
  replace B0 : Below w.heap.size w w3 := B0.trans (h3.mono B0.size)
  have HA : Hid (AlM b w3 n V) := hA
  clear h3 hA
  go_upto_region 5 with fail
  obtain ⟨P, hP⟩ : ∃ P, w3.heap.size = P := ⟨_, rfl⟩
  obtain ⟨w4, hw4⟩ : ∃ w4, w4 = w3.alloc (.cells #[.int .i64 (x + 1), .slice (some ⟨b, 0, none⟩) n n] 26) := ⟨_, rfl⟩
  rw [← hw4, hP]
  have h4 : Below w3.heap.size w3 w4 := by rw [hw4]; exact below0 _ _
  have n0 : w4.cell? ⟨P, 0, none⟩ = some (.int .i64 (x + 1)) := by rw [hw4, ← hP]; simp [go_sem]
  have n1 : w4.cell? ⟨P, 1, none⟩ = some (.slice (some ⟨b, 0, none⟩) n n) := by rw [hw4, ← hP]; simp [go_sem]
  have zP : P < w4.heap.size := by rw [hw4, ← hP]; simp
  have zb : b < w4.heap.size := by have := HA.out.1; have := h4.size; omega
  have Pb : P ≠ b := by have := HA.out.1; omega
  have lw : w.heap.size + 1 + 1 + 1 ≤ P := by have := HA.out.1; omega
  replace p0 := (h4.cell (p := ⟨w.heap.size, 0, none⟩) z0).trans p0
  replace p1 := (h4.cell (p := ⟨w.heap.size, 1, none⟩) z0).trans p1
  replace k0 := (h4.cell (p := ⟨w.heap.size + 1, 0, none⟩) z1).trans k0
  replace k1 := (h4.cell (p := ⟨w.heap.size + 1, 1, none⟩) z1).trans k1
  replace k2 := (h4.cell (p := ⟨w.heap.size + 1, 2, none⟩) z1).trans k2
  replace k3 := (h4.cell (p := ⟨w.heap.size + 1, 3, none⟩) z1).trans k3
  replace r0 := (h4.cell (p := ⟨w.heap.size + 1 + 1, 0, none⟩) z2).trans r0
  replace r1 := (h4.cell (p := ⟨w.heap.size + 1 + 1, 1, none⟩) z2).trans r1
  replace fr : ∀ o, w4.frozen? ⟨w.heap.size + 1 + 1, o, none⟩ = false := fun o => (h4.frozen (p := ⟨w.heap.size + 1 + 1, o, none⟩) z2).trans (fr o)
  replace z2 := Nat.lt_of_lt_of_le z2 h4.size
  replace z1 := Nat.lt_of_lt_of_le z1 h4.size
  replace z0 := Nat.lt_of_lt_of_le z0 h4.size
  replace B0 : Below w.heap.size w w4 := B0.trans (h4.mono B0.size)
  replace HA : Hid (AlM b w4 n V) := HA.out.below h4
  clear h4 hw4 hP p0 p1
  go_wp2_with fail
  refine (shelve_any P b (x + 1) n V sh nh ch Sh _ n0 n1 zP Pb hn2 HA (by omega) x2 hnh2 HShs.out (HSh.out.below B0) (fun h0 b' o' e => by obtain ⟨b2, o2, e2, hl, _⟩ := HSh.out 0 h0; rw [e] at e2; cases e2; omega)).mono ?_
  rintro e w5 ⟨rfl, hA, h5⟩
  replace k0 := (h5.cell (p := ⟨w.heap.size + 1, 0, none⟩) z1 (by show w.heap.size + 1 ≠ b; omega)).trans k0
  replace k1 := (h5.cell (p := ⟨w.heap.size + 1, 1, none⟩) z1 (by show w.heap.size + 1 ≠ b; omega)).trans k1
  replace k2 := (h5.cell (p := ⟨w.heap.size + 1, 2, none⟩) z1 (by show w.heap.size + 1 ≠ b; omega)).trans k2
  replace k3 := (h5.cell (p := ⟨w.heap.size + 1, 3, none⟩) z1 (by show w.heap.size + 1 ≠ b; omega)).trans k3
  replace r0 := (h5.cell (p := ⟨w.heap.size + 1 + 1, 0, none⟩) z2 (by show w.heap.size + 1 + 1 ≠ b; omega)).trans r0
  replace r1 := (h5.cell (p := ⟨w.heap.size + 1 + 1, 1, none⟩) z2 (by show w.heap.size + 1 + 1 ≠ b; omega)).trans r1
  replace n0 := (h5.cell (p := ⟨P, 0, none⟩) zP (by show P ≠ b; omega)).trans n0
  replace n1 := (h5.cell (p := ⟨P, 1, none⟩) zP (by show P ≠ b; omega)).trans n1
  replace fr : ∀ o, w5.frozen? ⟨w.heap.size + 1 + 1, o, none⟩ = false := fun o => (h5.frozen (p := ⟨w.heap.size + 1 + 1, o, none⟩) z2 (by show w.heap.size + 1 + 1 ≠ b; omega)).trans (fr o)
  replace z2 := Nat.lt_of_lt_of_le z2 h5.2.2.2.1
  replace z1 := Nat.lt_of_lt_of_le z1 h5.2.2.2.1
  replace zP := Nat.lt_of_lt_of_le zP h5.2.2.2.1
  replace zb := Nat.lt_of_lt_of_le zb h5.2.2.2.1
  replace B0 : Below w.heap.size w w5 := B0.trans (h5.below (by omega) B0.size)
  replace HA : Hid (AlM b w5 n (shV (x + 1) V Sh nh)) := hA
  clear h5 hA
  go_wp2_with fail
  refine (see_any P b (x + 1) n (shV (x + 1) V Sh nh) ss ns cs Se _ n0 n1 zP Pb hn2 HA hns2 HAll.out (HSe.out.below B0) (fun h0 b' o' e => by obtain ⟨b2, o2, e2, hl, _⟩ := HSe.out 0 h0; rw [e] at e2; cases e2; omega)).mono ?_
  rintro e w6 ⟨rfl, hA, h6⟩
  replace k0 := (h6.cell (p := ⟨w.heap.size + 1, 0, none⟩) z1 (by show w.heap.size + 1 ≠ b; omega)).trans k0
  replace k1 := (h6.cell (p := ⟨w.heap.size + 1, 1, none⟩) z1 (by show w.heap.size + 1 ≠ b; omega)).trans k1
  replace k2 := (h6.cell (p := ⟨w.heap.size + 1, 2, none⟩) z1 (by show w.heap.size + 1 ≠ b; omega)).trans k2
  replace k3 := (h6.cell (p := ⟨w.heap.size + 1, 3, none⟩) z1 (by show w.heap.size + 1 ≠ b; omega)).trans k3
  replace r0 := (h6.cell (p := ⟨w.heap.size + 1 + 1, 0, none⟩) z2 (by show w.heap.size + 1 + 1 ≠ b; omega)).trans r0
  replace r1 := (h6.cell (p := ⟨w.heap.size + 1 + 1, 1, none⟩) z2 (by show w.heap.size + 1 + 1 ≠ b; omega)).trans r1
  replace n0 := (h6.cell (p := ⟨P, 0, none⟩) zP (by show P ≠ b; omega)).trans n0
  replace n1 := (h6.cell (p := ⟨P, 1, none⟩) zP (by show P ≠ b; omega)).trans n1
  replace fr : ∀ o, w6.frozen? ⟨w.heap.size + 1 + 1, o, none⟩ = false := fun o => (h6.frozen (p := ⟨w.heap.size + 1 + 1, o, none⟩) z2 (by show w.heap.size + 1 + 1 ≠ b; omega)).trans (fr o)
  replace z2 := Nat.lt_of_lt_of_le z2 h6.2.2.2.1
  replace z1 := Nat.lt_of_lt_of_le z1 h6.2.2.2.1
  replace zP := Nat.lt_of_lt_of_le zP h6.2.2.2.1
  replace zb := Nat.lt_of_lt_of_le zb h6.2.2.2.1
  replace B0 : Below w.heap.size w w6 := B0.trans (h6.below (by omega) B0.size)
  replace HA : Hid (AlM b w6 n (seV (shV (x + 1) V Sh nh) Se ns)) := hA
  clear h6 hA
  have HTy2 : Hid (tidy n (seV (shV (x + 1) V Sh nh) Se ns)) := tidy_se (tidy_sh HTy.out nh (fun j hj => by have := (shf_yes (HShs.out j hj)).1; omega)) ns (fun j hj => by have := HAll.out j hj; omega)
  subst mnt
  go_wp2_with fail
  refine (listen_any P b (x + 1) nt (seV (shV (x + 1) V Sh nh) Se ns) mo st nt ct Th ss ns cs sh nh ch _ n0 n1 zP Pb hn2 HA zb m0 m1 rfl HTy2.out (HTh.out.below B0) (fun h0 b' o' e => by obtain ⟨b2, o2, e2, hl, _⟩ := HTh.out 0 h0; rw [e] at e2; cases e2; omega)).mono ?_
  rintro e w7 ⟨v, rfl, hA, hO, hT⟩
  have T0 : ∀ q, q < w6.heap.size → q ≠ b → ¬ (q = b ∨ w6.heap.size ≤ q) := fun q h1 h2 => by omega
  replace r0 := (hT.cell (p := ⟨w.heap.size + 1 + 1, 0, none⟩) z2 (T0 (w.heap.size + 1 + 1) z2 (by omega))).trans r0
  replace r1 := (hT.cell (p := ⟨w.heap.size + 1 + 1, 1, none⟩) z2 (T0 (w.heap.size + 1 + 1) z2 (by omega))).trans r1
  replace fr : ∀ o, w7.frozen? ⟨w.heap.size + 1 + 1, o, none⟩ = false := fun o => (hT.frozen (p := ⟨w.heap.size + 1 + 1, o, none⟩) z2 (T0 (w.heap.size + 1 + 1) z2 (by omega))).trans (fr o)
  replace n0 := (hT.cell (p := ⟨P, 0, none⟩) zP (T0 _ zP Pb)).trans n0
  replace n1 := (hT.cell (p := ⟨P, 1, none⟩) zP (T0 _ zP Pb)).trans n1
  have z7 := hT.size
  replace B0 : Below w.heap.size w w7 := B0.trans (hT.below (fun q hq => by omega) B0.size)
  have HA7 : Hid (AlM b w7 nt (stV x nt V mo nt Th ns Se nh Sh)) := hA
  have HO7 : Hid (w7.ownsRow (w6.heap.size + 1) 2 1 v (liL (seV (shV (x + 1) V Sh nh) Se ns) nt Th mo (x + 1) nt).length (cellsOf (liL (seV (shV (x + 1) V Sh nh) Se ns) nt Th mo (x + 1) nt))) := hO
  clear hA hO hT T0
  have zr7 : w.heap.size + 1 + 1 < w7.heap.size := by omega
  obtain ⟨s1, c1, ev, -⟩ := bs_yes (w := w) (c := nt) HO.out HA7.out (by omega) (show b < w6.heap.size + 1 by omega) HO7.out B0
  subst ev
  go_wp2
  obtain ⟨wz, hwz⟩ : ∃ wz, wz = (w7.setCell ⟨w.heap.size + 1 + 1, 0, none⟩ (.int .i64 (x + 1))).setCell ⟨w.heap.size + 1 + 1, 1, none⟩ (.slice (some ⟨b, 0, none⟩) nt nt) := ⟨_, rfl⟩
  have bes : Beside (w.heap.size + 1 + 1) w7 wz := by rw [hwz]; exact (Beside.setCell _ _ _ _).trans (Beside.setCell _ _ _ _)
  have hfin := bs_yes (w := w) (w' := wz) (c := nt) HO.out (HA7.out.beside bes (by omega)) (by omega) (show b < w6.heap.size + 1 by omega) (own_beside HO7.out bes (by omega)) (B0.trans (bes.below (by omega) B0.size))
  obtain ⟨s1', c1', ev', hfin⟩ := hfin
  rw [hwz] at hfin
  exact bodyPost_ret (v := .tuple #[.agg #[.int .i64 (x + 1), .slice (some ⟨b, 0, none⟩) nt nt], .slice s1 (stT x nt V mo nt Th ns Se nh Sh).length c1, .bool true]) (by simp [results, Try.results13, go_sem, r0, r1]) rfl hfin
end Go.Proofs.Ytlbbdifmjdpfiaa
