/-
What is proved: what one period costs, as the program says it.
-/
import Derived.Test.YtdlbniihgppodaaCqL
import Derived.Deep.RegionHeld3
import Derived.BigQuiet
namespace Go.Proofs.Ytdlbniihgppodaa
set_option maxRecDepth 40000
open Go.ChangeShapes Go.WideShapes Go.ChangeAt Go.RowKit
set_option linter.unusedVariables false
set_option linter.unusedSimpArgs false

theorem set3M {w w' : World} {B g : Nat} {x y z : Value} (h : Below B w w') (hg : B ≤ g) (hB : B ≤ w'.heap.size) : Below B w (((w'.setCell ⟨g, 0, none⟩ x).setCell ⟨g, 1, none⟩ y).setCell ⟨g, 2, none⟩ z) := set_belowM (set_belowM (set_belowM h hg hB) hg (by simpa using hB)) hg (by simpa using hB)
theorem set3B (g : Nat) (w : World) (x y z : Value) : Beside g w (((w.setCell ⟨g, 0, none⟩ x).setCell ⟨g, 1, none⟩ y).setCell ⟨g, 2, none⟩ z) := ((Beside.setCell g w 0 x).trans (Beside.setCell g _ 1 y)).trans (Beside.setCell g _ 2 z)
def pgB (V : Nat → Int × Int × Int × Int × Int) (P : Nat → Bool) (A : Nat → Int) (i : Nat) : Bool := P i || !(inB 1 ((V i).2.2.2.2 - 1) (A i))
def pokB (n : Nat) (V : Nat → Int × Int × Int × Int × Int) (P : Nat → Bool) (no : Nat) (ld : Int) (A : Nat → Int) : Bool := meB n V P no ld && decide (∀ i, i < n → pgB V P A i = true)
def pgF (n : Nat) (V : Nat → Int × Int × Int × Int × Int) (P : Nat → Bool) (ld : Int) (A : Nat → Int) (i : Nat) : Int := outV n V P ld i * csF V i + (if (P i && decide (A i = 0)) = true then (V i).2.2.2.1 else 0)
def nxF (P : Nat → Bool) (A : Nat → Int) (i : Nat) : Int := if P i = true then A i + 1 else 0
def upF (P : Nat → Bool) (A : Nat → Int) (k i : Nat) : Int := if i < k then nxF P A i else A i
def lasV (B : Nat → Int) : Value := .agg #[.int .i64 (B 0), .int .i64 (B 1), .int .i64 (B 2)]
def PcPost (n : Nat) (V : Nat → Int × Int × Int × Int × Int) (P : Nat → Bool) (no : Nat) (ld : Int) (A : Nat → Int) (w : World) (e : Ending) (w' : World) : Prop := ∃ (v : Int) (B : Nat → Int) (b : Bool), b = pokB n V P no ld A ∧ (b = true → v = sumF (pgF n V P ld A) n ∧ ∀ i, B i = upF P A n i) ∧ e = .returned (.tuple #[.int .i64 v, lasV B, .bool b]) ∧ Below w.heap.size w w'
theorem pg_in {n : Nat} {V : Nat → Int × Int × Int × Int × Int} {P : Nat → Bool} {A : Nat → Int} {ld : Int} (h : ∀ i, i < n → plB (V i) = true) : ∀ i, i < n → 0 ≤ pgF n V P ld A i ∧ pgF n V P ld A i ≤ 1100000000 := fun i hi => by
  have h1 := out_in (P := P) (ld := ld) h i hi
  have h2 := pl_yes (h i hi)
  have h3 := mul_cost h1.1 h1.2 h2.2.2.1.1 h2.2.2.1.2
  unfold pgF csF
  split <;> omega
theorem ranOn_any (a : Int) (b : Bool) (w : World) (h0 : 0 ≤ a) (h1 : a ≤ 1048576) : Calls Try.prog 69 #[.int .i64 a, .bool b] w fun e w' => e = .returned (.int .i64 (if b = true then a + 1 else 0)) ∧ w' = w := by
  go_enter Try.func69, Try.ntmps69
  cases b
  · go_wp2
    go_ret
    exact ⟨rfl, rfl⟩
  · go_wp2
    go_ret
    exact ⟨rfl, rfl⟩
set_option maxRecDepth 20000 in
set_option maxHeartbeats 16000000 in
theorem periodCost_any (s : Option Addr) (n c : Nat) (V : Nat → Int × Int × Int × Int × Int) (A : Nat → Int) (t : Option Addr) (no m : Nat) (P : Nat → Bool) (ld : Int) (w : World) (hn : (n : Int) ≤ 1048576) (hno : (no : Int) ≤ 1048576) (l0 : -9223372036854775808 ≤ ld) (l1 : ld ≤ 9223372036854775807) (hA : ∀ i, 0 ≤ A i ∧ A i ≤ 1000) (HR : Hid (RowPlant w s n V)) (HO : Hid (RowB w t no P)) :
    Calls Try.prog 47 #[.slice s n c, lasV A, .slice t no m, .int .i64 ld] w fun e w' => PcPost n V P no ld A w e w' := by
  unfold lasV
  go_enter Try.func47, Try.ntmps47
  go_wp2_with fail
  obtain ⟨wd, hwd⟩ : ∃ z, z = ((w.alloc (.cells #[.int .i64 (A 0), .int .i64 (A 1), .int .i64 (A 2)] 68)).alloc (.cells #[.int .i64 0, .int .i64 0, .int .i64 0] 68)) := ⟨_, rfl⟩
  rw [← hwd]
  have B0 : Below w.heap.size w wd := by rw [hwd]; exact (by repeat (first | with_reducible exact Below.refl _ _ | with_reducible refine Below.setCell ?_ (by first | omega | (simp; done) | (simp; omega)) _ | with_reducible refine bDrewN ?_ _ | with_reducible refine Below.drew ?_ | with_reducible refine Below.alloc ?_ (by first | omega | (simp; done) | (simp; omega)) _))
  have HG0 : Hid (OwnI w.heap.size wd (some ⟨w.heap.size, 0, none⟩) 3 A) := by
    rw [hwd]
    intro j hj
    rcases (by omega : j = 0 ∨ j = 1 ∨ j = 2) with rfl | rfl | rfl <;> exact ⟨w.heap.size, rfl, Nat.le_refl _, by simp; omega, by simp [go_sem], by simp [go_sem]⟩
  have HZ0 : Hid (OwnI (w.heap.size + 1) wd (some ⟨w.heap.size + 1, 0, none⟩) 3 (fun _ => 0)) := by
    rw [hwd]
    intro j hj
    rcases (by omega : j = 0 ∨ j = 1 ∨ j = 2) with rfl | rfl | rfl <;> exact ⟨w.heap.size + 1, rfl, by omega, by simp, by simp [go_sem], by simp [go_sem]⟩
  obtain ⟨D, hD⟩ : ∃ D, D = wd.heap.size := ⟨_, rfl⟩
  have D2 : w.heap.size + 1 < D := by rw [hD, hwd]; simp
  clear hwd
  refine (implMerit_any s n c V t no m P ld _ hn hno l0 l1 (HR.out.below B0) (HO.out.below B0)).mono ?_
  rintro e w1 ⟨sm, cp, rfl, O1, h1⟩
  rw [← hD] at O1
  have HB1 : Hid (Below w.heap.size w w1) := B0.trans (h1.mono B0.size)
  have HG1 : Hid (OwnI w.heap.size w1 (some ⟨w.heap.size, 0, none⟩) 3 A) := HG0.out.below h1
  have HZ1 : Hid (OwnI (w.heap.size + 1) w1 (some ⟨w.heap.size + 1, 0, none⟩) 3 (fun _ => 0)) := HZ0.out.below h1
  have HU1 : Hid (OwnI D w1 sm (meN n V P no ld) (outV n V P ld)) := O1
  clear h1 O1 HG0 HZ0 hD B0
  cases eM : meB n V P no ld
  · have HF : Hid (pokB n V P no ld A = false) := by show _ = _; unfold pokB; rw [eM]; rfl
    obtain ⟨b0, q0, -, zz, a0, f0⟩ := HZ1.out 0 (by omega)
    cases q0
    obtain ⟨b0, q0, -, -, a1, f1⟩ := HZ1.out 1 (by omega)
    cases q0
    obtain ⟨b0, q0, -, -, a2, f2⟩ := HZ1.out 2 (by omega)
    cases q0
    have HB := HB1.out
    have zb := HB.size
    go_wp2
    exact bodyPost_ret (v := .tuple #[.int .i64 0, .agg #[.int .i64 0, .int .i64 0, .int .i64 0], .bool false]) (by simp [results, Try.results47, go_sem, *]) rfl ⟨0, fun _ => 0, false, HF.out.symm, (fun h => by cases h), rfl, set3M HB (by omega) (by omega)⟩
  have hok := eM
  unfold meB at hok
  simp only [Bool.and_eq_true, decide_eq_true_iff] at hok
  obtain ⟨hps, hno2, -⟩ := hok
  subst hno2
  obtain ⟨n1, n3, hpl⟩ := pls_yes hps
  have HPL : Hid (∀ i, i < no → plB (V i) = true) := hpl
  have HME : Hid (meB no V P no ld = true) := eM
  have HU2 : Hid (OwnI D w1 sm no (outV no V P ld)) := by
    have := HU1.out
    unfold meN at this
    rw [eM] at this
    exact this
  have HNN : Hid (meN no V P no ld = no) := by show _ = _; unfold meN; rw [eM]; rfl
  rw [HNN.out]
  clear eM hps hpl HU1
  go_wp2_with fail
  go_loopw [13, 28] (fun v i wr => ∃ k : Nat, k ≤ no ∧ i = .int .i64 k ∧ v = .int .i64 (sumF (pgF no V P ld A) k) ∧ Hid (∀ j, j < k → pgB V P A j = true) ∧ Hid (OwnI w.heap.size wr (some ⟨w.heap.size, 0, none⟩) 3 (upF P A k)) ∧ Hid (OwnI (w.heap.size + 1) wr (some ⟨w.heap.size + 1, 0, none⟩) 3 (fun _ => 0)) ∧ Hid (OwnI D wr sm no (outV no V P ld)) ∧ Hid (Below w.heap.size w wr)) (fun _ i _ => no - (intOf i).toNat)
  case atStart => exact ⟨0, Nat.zero_le _, rfl, rfl, fun j hj => by omega, HG1.out, HZ1.out, HU2.out, HB1.out⟩
  case round =>
    clear HG1 HZ1 HU2 HB1
    obtain ⟨k, hk, rfl, rfl, HP, HG, HZ, HU, HB⟩ := hrel
    by_cases h1 : k < no
    case neg =>
      obtain rfl : no = k := by omega
      have HF : Hid (pokB no V P no ld A = true) := by show _ = _; unfold pokB; rw [HME.out, decide_eq_true HP.out]; rfl
      obtain ⟨S, hS⟩ : ∃ z, sumF (pgF no V P ld A) no = z := ⟨_, rfl⟩
      rw [hS]
      have HS : Hid (sumF (pgF no V P ld A) no = S) := hS
      clear hS
      obtain ⟨b0, q0, -, zr, r0, -⟩ := HG.out 0 (by omega)
      cases q0
      obtain ⟨b0, q0, -, -, r1, -⟩ := HG.out 1 (by omega)
      cases q0
      obtain ⟨b0, q0, -, -, r2, -⟩ := HG.out 2 (by omega)
      cases q0
      obtain ⟨b0, q0, -, zz, a0, f0⟩ := HZ.out 0 (by omega)
      cases q0
      obtain ⟨b0, q0, -, -, a1, f1⟩ := HZ.out 1 (by omega)
      cases q0
      obtain ⟨b0, q0, -, -, a2, f2⟩ := HZ.out 2 (by omega)
      cases q0
      have ad0 := ((below_drewS wr).cell (p := ⟨w.heap.size + 1, 0, none⟩) zz).trans a0
      have fd0 := ((below_drewS wr).frozen (p := ⟨w.heap.size + 1, 0, none⟩) zz).trans f0
      obtain ⟨x0, hx0⟩ : ∃ z, upF P A no 0 = z := ⟨_, rfl⟩
      have HX0 : Hid (upF P A no 0 = x0) := hx0
      rw [hx0] at r0
      clear hx0
      have ad1 := ((below_drewS wr).cell (p := ⟨w.heap.size + 1, 1, none⟩) zz).trans a1
      have fd1 := ((below_drewS wr).frozen (p := ⟨w.heap.size + 1, 1, none⟩) zz).trans f1
      obtain ⟨x1, hx1⟩ : ∃ z, upF P A no 1 = z := ⟨_, rfl⟩
      have HX1 : Hid (upF P A no 1 = x1) := hx1
      rw [hx1] at r1
      clear hx1
      have ad2 := ((below_drewS wr).cell (p := ⟨w.heap.size + 1, 2, none⟩) zz).trans a2
      have fd2 := ((below_drewS wr).frozen (p := ⟨w.heap.size + 1, 2, none⟩) zz).trans f2
      obtain ⟨x2, hx2⟩ : ∃ z, upF P A no 2 = z := ⟨_, rfl⟩
      have HX2 : Hid (upF P A no 2 = x2) := hx2
      rw [hx2] at r2
      clear hx2
      go_upto_region 15 with fail
      refine wp_region_held_drew (S := fun w' => w'.cell? ⟨w.heap.size, 0, none⟩ = some (.int .i64 x0) ∧ w'.cell? ⟨w.heap.size, 1, none⟩ = some (.int .i64 x1) ∧ w'.cell? ⟨w.heap.size, 2, none⟩ = some (.int .i64 x2)) (by kernel_rfl) ?_ (fun hHeld => ?_)
      · exact ⟨((below_drewS wr).cell (p := ⟨w.heap.size, 0, none⟩) zr).trans r0, ((below_drewS wr).cell (p := ⟨w.heap.size, 1, none⟩) zr).trans r1, ((below_drewS wr).cell (p := ⟨w.heap.size, 2, none⟩) zr).trans r2⟩
      refine wpAnyH_take (i := 0) (v := .int .i64 S) rfl (by kernel_rfl) (by kernel_rfl) (by kernel_rfl) (fun _ _ _ h => h) (Or.inl ⟨by kernel_rfl, ?_⟩) hHeld ?_
      · intro w' hSw
        obtain ⟨s0, s1, s2⟩ := hSw
        first | (go_simp; done) | (go_simp; with_reducible rfl) | (go_simp; rw [IntKind.wrap_i64]; omega) | (go_simp; omega)
      simp only [Act.put, List.setIfInBounds_toArray, List.set_cons_zero, List.set_cons_succ]
      refine wpAnyH_take (i := 1) (v := .agg #[.int .i64 x0, .int .i64 x1, .int .i64 x2]) rfl (by kernel_rfl) (by kernel_rfl) (by kernel_rfl) (fun _ _ _ h => h) (Or.inl ⟨by kernel_rfl, ?_⟩) hHeld ?_
      · intro w' hSw
        obtain ⟨s0, s1, s2⟩ := hSw
        first | (go_simp; done) | (go_simp; with_reducible rfl) | (go_simp; rw [IntKind.wrap_i64]; omega) | (go_simp; omega)
      simp only [Act.put, List.setIfInBounds_toArray, List.set_cons_zero, List.set_cons_succ]
      refine wpAnyH_take (i := 2) (v := .int .i64 S) rfl (by kernel_rfl) (by kernel_rfl) (by kernel_rfl) (fun _ _ _ h => h) (Or.inl ⟨by kernel_rfl, ?_⟩) hHeld ?_
      · intro w' hSw
        obtain ⟨s0, s1, s2⟩ := hSw
        first | (go_simp; done) | (go_simp; with_reducible rfl) | (go_simp; rw [IntKind.wrap_i64]; omega) | (go_simp; omega)
      simp only [Act.put, List.setIfInBounds_toArray, List.set_cons_zero, List.set_cons_succ]
      refine wpAnyH_ready (rs := [3]) (by kernel_rfl) (by simp) ?_
      refine AllReadyH.cons rfl (fun KK hK => ?_) AllReadyH.nil
      go_simp
      have BS := set3B (w.heap.size + 1) wr.drew (.int .i64 x0) (.int .i64 x1) (.int .i64 x2)
      have zd : w.heap.size < wr.drew.heap.size := Nat.lt_of_lt_of_le zr (below_drewS wr).size
      refine hK.out _ _ ⟨(BS.cell (p := ⟨w.heap.size, 0, none⟩) zd (by show w.heap.size ≠ w.heap.size + 1; omega)).trans hHeld.1, (BS.cell (p := ⟨w.heap.size, 1, none⟩) zd (by show w.heap.size ≠ w.heap.size + 1; omega)).trans hHeld.2.1, (BS.cell (p := ⟨w.heap.size, 2, none⟩) zd (by show w.heap.size ≠ w.heap.size + 1; omega)).trans hHeld.2.2⟩ (fun hHeld => ?_)
      clear hK KK
      refine wpAnyH_ready (rs := [4]) (by kernel_rfl) (by simp) ?_
      refine AllReadyH.cons rfl (fun KK hK => ?_) AllReadyH.nil
      go_simp
      refine hK.out _ _ hHeld (fun hHeld => ?_)
      clear hK KK
      refine wpAnyH_done (by kernel_rfl) ?_ _
      have HBd := HB.out.trans ((below_drewS wr).mono HB.out.size)
      go_wp2
      exact bodyPost_ret (v := .tuple #[.int .i64 S, .agg #[.int .i64 x0, .int .i64 x1, .int .i64 x2], .bool true]) (by simp [results, Try.results47, go_sem, a0, a1, a2, f0, f1, f2]) rfl ⟨S, upF P A no, true, HF.out.symm, (fun _ => ⟨HS.out.symm, fun _ => rfl⟩), (by unfold lasV; rw [HX0.out, HX1.out, HX2.out]), set3M HBd (by omega) HBd.size⟩
    have k1 : (k : Int) < (no : Int) := by omega
    have k3 : (k : Int) < 3 := by omega
    have hB := HB.out
    have zW := hB.size
    obtain ⟨b0, q0, -, zr, ca, fa⟩ := HG.out k (by omega)
    cases q0
    rw [show upF P A k k = A k from by unfold upF; simp] at ca
    obtain ⟨g2, o2, rfl, hg2, d0⟩ := HO.out k h1
    replace d0 := (hB.cell (p := ⟨g2, o2 + k, none⟩) hg2).trans d0
    obtain ⟨b1, rfl, db1, zu, cu, -⟩ := HU.out k h1
    have HPC : Hid (sumF (pgF no V P ld A) (k + 1) = sumF (pgF no V P ld A) k + (outV no V P ld k * (V k).2.2.1 + (if (P k && decide (A k = 0)) = true then (V k).2.2.2.1 else 0))) := rfl
    have HGK : Hid (pgB V P A k = (P k || !(inB 1 ((V k).2.2.2.2 - 1) (A k)))) := rfl
    have HUP : Hid (∀ i, upF P A (k + 1) i = if i = k then (if P k = true then A k + 1 else 0) else upF P A k i) := fun i => by
      unfold upF nxF
      by_cases e : i = k
      · subst e; simp
      · rw [if_neg e]
        by_cases q : i < k
        · rw [if_pos q, if_pos (by omega)]
        · rw [if_neg q, if_neg (by omega)]
    have sk := sum_in (f := pgF no V P ld A) (n := k) (M := 1100000000) (fun j hj => pg_in HPL.out j (by omega))
    have ub := out_in (P := P) (ld := ld) HPL.out k h1
    have pb := pl_yes (HPL.out k h1)
    have ha := hA k
    obtain ⟨g, o, rfl, hg, c0, c1, c2, c3, c4⟩ := HR.out k h1
    replace c0 := (hB.cell (p := ⟨g, o + k * 5, none⟩) hg).trans c0
    replace c1 := (hB.cell (p := ⟨g, o + k * 5 + 1, none⟩) hg).trans c1
    replace c2 := (hB.cell (p := ⟨g, o + k * 5 + 2, none⟩) hg).trans c2
    replace c3 := (hB.cell (p := ⟨g, o + k * 5 + 3, none⟩) hg).trans c3
    replace c4 := (hB.cell (p := ⟨g, o + k * 5 + 4, none⟩) hg).trans c4
    obtain ⟨⟨a, b, dd, x, y⟩, hV⟩ : ∃ z, V k = z := ⟨_, rfl⟩
    rw [hV] at c0 c1 c2 c3 c4 pb HPC HGK
    simp only at c0 c1 c2 c3 c4 pb HPC HGK
    obtain ⟨uu, huu⟩ : ∃ z, outV no V P ld k = z := ⟨_, rfl⟩
    rw [huu] at cu ub HPC
    have mb := mul_cost ub.1 ub.2 pb.2.2.1.1 pb.2.2.1.2
    have xb := pb.2.2.2.1
    have yb := pb.2.2.2.2
    obtain ⟨S, hS⟩ : ∃ z, sumF (pgF no V P ld A) k = z := ⟨_, rfl⟩
    rw [hS] at HPC sk ⊢
    have s0 : 0 ≤ S ∧ S ≤ 3300000000 := by omega
    obtain ⟨bo, hbo⟩ : ∃ z, P k = z := ⟨_, rfl⟩
    rw [hbo] at d0 HPC HGK HUP
    obtain ⟨ak, hak⟩ : ∃ z, A k = z := ⟨_, rfl⟩
    rw [hak] at ca HPC HGK HUP ha
    have zg2 : g2 < wr.heap.size := Nat.lt_of_lt_of_le hg2 zW
    have zg : g < wr.heap.size := Nat.lt_of_lt_of_le hg zW
    clear hV huu hS hbo hak pb sk ub hB
    go_upto_region 8 with fail
    obtain ⟨wa, hwa⟩ : ∃ wa, wa = wr.alloc (.cells #[.int .i64 a, .int .i64 b, .int .i64 dd, .int .i64 x, .int .i64 y] 55) := ⟨_, rfl⟩
    rw [← hwa]
    have hb : Below wr.heap.size wr wa := by rw [hwa]; exact below0 _ _
    have v2 : wa.cell? ⟨wr.heap.size, 2, none⟩ = some (.int .i64 dd) := by rw [hwa]; simp [go_sem]
    have v3 : wa.cell? ⟨wr.heap.size, 3, none⟩ = some (.int .i64 x) := by rw [hwa]; simp [go_sem]
    have v4 : wa.cell? ⟨wr.heap.size, 4, none⟩ = some (.int .i64 y) := by rw [hwa]; simp [go_sem]
    have za : wr.heap.size < wa.heap.size := by rw [hwa]; simp
    replace d0 := (hb.cell (p := ⟨g2, o2 + k, none⟩) zg2).trans d0
    replace ca := (hb.cell (p := ⟨w.heap.size, k, none⟩) zr).trans ca
    replace cu := (hb.cell (p := ⟨b1, k, none⟩) zu).trans cu
    have HBa : Hid (Below w.heap.size w wa) := HB.out.trans (hb.mono zW)
    have HGa : Hid (OwnI w.heap.size wa (some ⟨w.heap.size, 0, none⟩) 3 (upF P A k)) := HG.out.below hb
    have HZa : Hid (OwnI (w.heap.size + 1) wa (some ⟨w.heap.size + 1, 0, none⟩) 3 (fun _ => 0)) := HZ.out.below hb
    have HUa : Hid (OwnI D wa (some ⟨b1, 0, none⟩) no (outV no V P ld)) := HU.out.below hb
    have za2 : g2 < wa.heap.size := by omega
    have zar : w.heap.size < wa.heap.size := by omega
    have zau : b1 < wa.heap.size := by omega
    clear hwa hb c0 c1 c2 c3 c4 fa HB HG HZ HU zu zg zg2
    cases bo
    case true =>
      have HKK : Hid (pgB V P A k = true) := by show _ = _; rw [HGK.out]; rfl
      refine wp_region_held_drew (S := fun w' => w'.cell? ⟨g2, o2 + k, none⟩ = some (.bool true) ∧ w'.cell? ⟨w.heap.size, k, none⟩ = some (.int .i64 ak) ∧ w'.cell? ⟨wr.heap.size, 4, none⟩ = some (.int .i64 y)) (by kernel_rfl) ?_ (fun hHeld => ?_)
      · exact ⟨((below_drewS wa).cell (p := ⟨g2, o2 + k, none⟩) za2).trans d0, ((below_drewS wa).cell (p := ⟨w.heap.size, k, none⟩) zar).trans ca, ((below_drewS wa).cell (p := ⟨wr.heap.size, 4, none⟩) za).trans v4⟩
      refine wpAnyH_take (i := 0) (v := .slice (some ⟨g2, o2, none⟩) no m) rfl (by kernel_rfl) (by kernel_rfl) (by kernel_rfl) (fun _ _ _ h => h) (Or.inl ⟨by kernel_rfl, ?_⟩) hHeld ?_
      · intro w' hSw
        obtain ⟨s0, s1, s2⟩ := hSw
        first | (go_simp; done) | (go_simp; with_reducible rfl) | (go_simp; rw [IntKind.wrap_i64]; omega) | (go_simp; omega)
      simp only [Act.put, List.setIfInBounds_toArray, List.set_cons_zero, List.set_cons_succ]
      refine wpAnyH_take (i := 1) (v := .int .i64 (k : Int)) rfl (by kernel_rfl) (by kernel_rfl) (by kernel_rfl) (fun _ _ _ h => h) (Or.inl ⟨by kernel_rfl, ?_⟩) hHeld ?_
      · intro w' hSw
        obtain ⟨s0, s1, s2⟩ := hSw
        first | (go_simp; done) | (go_simp; with_reducible rfl) | (go_simp; rw [IntKind.wrap_i64]; omega) | (go_simp; omega)
      simp only [Act.put, List.setIfInBounds_toArray, List.set_cons_zero, List.set_cons_succ]
      refine wpAnyH_take (i := 2) (v := .pointer (some ⟨g2, o2 + k, none⟩)) rfl (by kernel_rfl) (by kernel_rfl) (by kernel_rfl) (fun _ _ _ h => h) (Or.inl ⟨by kernel_rfl, ?_⟩) hHeld ?_
      · intro w' hSw
        obtain ⟨s0, s1, s2⟩ := hSw
        first | (go_simp; done) | (go_simp; with_reducible rfl) | (go_simp; rw [IntKind.wrap_i64]; omega) | (go_simp; omega)
      simp only [Act.put, List.setIfInBounds_toArray, List.set_cons_zero, List.set_cons_succ]
      refine wpAnyH_take (i := 3) (v := .bool true) rfl (by kernel_rfl) (by kernel_rfl) (by kernel_rfl) (fun _ _ _ h => h) (Or.inl ⟨by kernel_rfl, ?_⟩) hHeld ?_
      · intro w' hSw
        obtain ⟨s0, s1, s2⟩ := hSw
        first | (go_simp; done) | (go_simp; with_reducible rfl) | (go_simp; rw [IntKind.wrap_i64]; omega) | (go_simp; omega)
      simp only [Act.put, List.setIfInBounds_toArray, List.set_cons_zero, List.set_cons_succ]
      refine wpAnyH_take (i := 4) (v := .bool false) rfl (by kernel_rfl) (by kernel_rfl) (by kernel_rfl) (fun _ _ _ h => h) (Or.inl ⟨by kernel_rfl, ?_⟩) hHeld ?_
      · intro w' hSw
        obtain ⟨s0, s1, s2⟩ := hSw
        first | (go_simp; done) | (go_simp; with_reducible rfl) | (go_simp; rw [IntKind.wrap_i64]; omega) | (go_simp; omega)
      simp only [Act.put, List.setIfInBounds_toArray, List.set_cons_zero, List.set_cons_succ]
      refine wpAnyH_take (i := 5) (v := .bool false) rfl (by kernel_rfl) (by kernel_rfl) (by kernel_rfl) (fun _ _ _ h => h) (Or.inl ⟨by kernel_rfl, ?_⟩) hHeld ?_
      · intro w' hSw
        obtain ⟨s0, s1, s2⟩ := hSw
        first | (go_simp; done) | (go_simp; with_reducible rfl) | (go_simp; rw [IntKind.wrap_i64]; omega) | (go_simp; omega)
      simp only [Act.put, List.setIfInBounds_toArray, List.set_cons_zero, List.set_cons_succ]
      refine wpAnyH_take (i := 6) (v := undef) rfl (by kernel_rfl) (by kernel_rfl) (by kernel_rfl) (fun _ _ _ h => h) (Or.inr ⟨by kernel_rfl, rfl⟩) hHeld ?_
      simp only [Act.put, List.setIfInBounds_toArray, List.set_cons_zero, List.set_cons_succ]
      refine wpAnyH_take (i := 7) (v := undef) rfl (by kernel_rfl) (by kernel_rfl) (by kernel_rfl) (fun _ _ _ h => h) (Or.inr ⟨by kernel_rfl, rfl⟩) hHeld ?_
      simp only [Act.put, List.setIfInBounds_toArray, List.set_cons_zero, List.set_cons_succ]
      refine wpAnyH_take (i := 8) (v := undef) rfl (by kernel_rfl) (by kernel_rfl) (by kernel_rfl) (fun _ _ _ h => h) (Or.inr ⟨by kernel_rfl, rfl⟩) hHeld ?_
      simp only [Act.put, List.setIfInBounds_toArray, List.set_cons_zero, List.set_cons_succ]
      refine wpAnyH_take (i := 9) (v := undef) rfl (by kernel_rfl) (by kernel_rfl) (by kernel_rfl) (fun _ _ _ h => h) (Or.inr ⟨by kernel_rfl, rfl⟩) hHeld ?_
      simp only [Act.put, List.setIfInBounds_toArray, List.set_cons_zero, List.set_cons_succ]
      refine wpAnyH_take (i := 10) (v := undef) rfl (by kernel_rfl) (by kernel_rfl) (by kernel_rfl) (fun _ _ _ h => h) (Or.inr ⟨by kernel_rfl, rfl⟩) hHeld ?_
      simp only [Act.put, List.setIfInBounds_toArray, List.set_cons_zero, List.set_cons_succ]
      refine wpAnyH_take (i := 11) (v := undef) rfl (by kernel_rfl) (by kernel_rfl) (by kernel_rfl) (fun _ _ _ h => h) (Or.inr ⟨by kernel_rfl, rfl⟩) hHeld ?_
      simp only [Act.put, List.setIfInBounds_toArray, List.set_cons_zero, List.set_cons_succ]
      refine wpAnyH_take (i := 12) (v := undef) rfl (by kernel_rfl) (by kernel_rfl) (by kernel_rfl) (fun _ _ _ h => h) (Or.inr ⟨by kernel_rfl, rfl⟩) hHeld ?_
      simp only [Act.put, List.setIfInBounds_toArray, List.set_cons_zero, List.set_cons_succ]
      refine wpAnyH_ready (rs := [13]) (by kernel_rfl) (by simp) ?_
      refine AllReadyH.cons rfl (fun KK hK => ?_) AllReadyH.nil
      go_simp
      refine hK.out _ _ hHeld (fun hHeld => ?_)
      clear hK KK
      refine wpAnyH_done (by kernel_rfl) ?_ _
      obtain ⟨w8, hw8⟩ : ∃ z, z = wa.drew := ⟨_, rfl⟩
      rw [← hw8]
      have B8 : Below wa.heap.size wa w8 := by rw [hw8]; exact below_drewS _
      clear hw8 hHeld
      have u8 := (B8.cell (p := ⟨b1, k, none⟩) zau).trans cu
      have p2 := (B8.cell (p := ⟨wr.heap.size, 2, none⟩) za).trans v2
      have zs8 := B8.size
      have zu8 : b1 < w8.heap.size := by omega
      have zp8 : wr.heap.size < w8.heap.size := by omega
      go_upto_region 10 with fail
      refine wp_region_held_drew (S := fun w' => w'.cell? ⟨b1, k, none⟩ = some (.int .i64 uu) ∧ w'.cell? ⟨wr.heap.size, 2, none⟩ = some (.int .i64 dd)) (by kernel_rfl) ?_ (fun hHeld => ?_)
      · exact keepLB u8 p2 zu8 zp8 (by repeat (first | with_reducible exact Below.refl _ _ | with_reducible refine Below.setCell ?_ (by first | omega | (simp; done) | (simp; omega)) _ | with_reducible refine bDrewN ?_ _ | with_reducible refine Below.drew ?_ | with_reducible refine Below.alloc ?_ (by first | omega | (simp; done) | (simp; omega)) _))
      refine wpAnyH_take (i := 0) (v := .int .i64 S) rfl (by kernel_rfl) (by kernel_rfl) (by kernel_rfl) (fun _ _ _ h => h) (Or.inl ⟨by kernel_rfl, ?_⟩) hHeld ?_
      · intro w' hSw
        obtain ⟨s0, s1⟩ := hSw
        first | (go_simp; done) | (go_simp; with_reducible rfl) | (go_simp; rw [IntKind.wrap_i64]; omega) | (go_simp; omega)
      simp only [Act.put, List.setIfInBounds_toArray, List.set_cons_zero, List.set_cons_succ]
      refine wpAnyH_take (i := 1) (v := .slice (some ⟨b1, 0, none⟩) no cp) rfl (by kernel_rfl) (by kernel_rfl) (by kernel_rfl) (fun _ _ _ h => h) (Or.inl ⟨by kernel_rfl, ?_⟩) hHeld ?_
      · intro w' hSw
        obtain ⟨s0, s1⟩ := hSw
        first | (go_simp; done) | (go_simp; with_reducible rfl) | (go_simp; rw [IntKind.wrap_i64]; omega) | (go_simp; omega)
      simp only [Act.put, List.setIfInBounds_toArray, List.set_cons_zero, List.set_cons_succ]
      refine wpAnyH_take (i := 2) (v := .int .i64 (k : Int)) rfl (by kernel_rfl) (by kernel_rfl) (by kernel_rfl) (fun _ _ _ h => h) (Or.inl ⟨by kernel_rfl, ?_⟩) hHeld ?_
      · intro w' hSw
        obtain ⟨s0, s1⟩ := hSw
        first | (go_simp; done) | (go_simp; with_reducible rfl) | (go_simp; rw [IntKind.wrap_i64]; omega) | (go_simp; omega)
      simp only [Act.put, List.setIfInBounds_toArray, List.set_cons_zero, List.set_cons_succ]
      refine wpAnyH_take (i := 3) (v := .pointer (some ⟨b1, k, none⟩)) rfl (by kernel_rfl) (by kernel_rfl) (by kernel_rfl) (fun _ _ _ h => h) (Or.inl ⟨by kernel_rfl, ?_⟩) hHeld ?_
      · intro w' hSw
        obtain ⟨s0, s1⟩ := hSw
        first | (go_simp; done) | (go_simp; with_reducible rfl) | (go_simp; rw [IntKind.wrap_i64]; omega) | (go_simp; omega)
      simp only [Act.put, List.setIfInBounds_toArray, List.set_cons_zero, List.set_cons_succ]
      refine wpAnyH_take (i := 4) (v := .int .i64 uu) rfl (by kernel_rfl) (by kernel_rfl) (by kernel_rfl) (fun _ _ _ h => h) (Or.inl ⟨by kernel_rfl, ?_⟩) hHeld ?_
      · intro w' hSw
        obtain ⟨s0, s1⟩ := hSw
        first | (go_simp; done) | (go_simp; with_reducible rfl) | (go_simp; rw [IntKind.wrap_i64]; omega) | (go_simp; omega)
      simp only [Act.put, List.setIfInBounds_toArray, List.set_cons_zero, List.set_cons_succ]
      refine wpAnyH_take (i := 5) (v := .pointer (some ⟨wr.heap.size, 2, none⟩)) rfl (by kernel_rfl) (by kernel_rfl) (by kernel_rfl) (fun _ _ _ h => h) (Or.inl ⟨by kernel_rfl, ?_⟩) hHeld ?_
      · intro w' hSw
        obtain ⟨s0, s1⟩ := hSw
        first | (go_simp; done) | (go_simp; with_reducible rfl) | (go_simp; rw [IntKind.wrap_i64]; omega) | (go_simp; omega)
      simp only [Act.put, List.setIfInBounds_toArray, List.set_cons_zero, List.set_cons_succ]
      refine wpAnyH_take (i := 6) (v := .int .i64 dd) rfl (by kernel_rfl) (by kernel_rfl) (by kernel_rfl) (fun _ _ _ h => h) (Or.inl ⟨by kernel_rfl, ?_⟩) hHeld ?_
      · intro w' hSw
        obtain ⟨s0, s1⟩ := hSw
        first | (go_simp; done) | (go_simp; with_reducible rfl) | (go_simp; rw [IntKind.wrap_i64]; omega) | (go_simp; omega)
      simp only [Act.put, List.setIfInBounds_toArray, List.set_cons_zero, List.set_cons_succ]
      refine wpAnyH_take (i := 7) (v := .int .i64 (uu * dd)) rfl (by kernel_rfl) (by kernel_rfl) (by kernel_rfl) (fun _ _ _ h => h) (Or.inl ⟨by kernel_rfl, ?_⟩) hHeld ?_
      · intro w' hSw
        obtain ⟨s0, s1⟩ := hSw
        first | (go_simp; done) | (go_simp; with_reducible rfl) | (go_simp; rw [IntKind.wrap_i64]; omega) | (go_simp; omega)
      simp only [Act.put, List.setIfInBounds_toArray, List.set_cons_zero, List.set_cons_succ]
      refine wpAnyH_take (i := 8) (v := .int .i64 (S + uu * dd)) rfl (by kernel_rfl) (by kernel_rfl) (by kernel_rfl) (fun _ _ _ h => h) (Or.inl ⟨by kernel_rfl, ?_⟩) hHeld ?_
      · intro w' hSw
        obtain ⟨s0, s1⟩ := hSw
        first | (go_simp; done) | (go_simp; with_reducible rfl) | (go_simp; rw [IntKind.wrap_i64]; omega) | (go_simp; omega)
      simp only [Act.put, List.setIfInBounds_toArray, List.set_cons_zero, List.set_cons_succ]
      refine wpAnyH_ready (rs := [9]) (by kernel_rfl) (by simp) ?_
      refine AllReadyH.cons rfl (fun KK hK => ?_) AllReadyH.nil
      go_simp
      refine hK.out _ _ hHeld (fun hHeld => ?_)
      clear hK KK
      refine wpAnyH_done (by kernel_rfl) ?_ _
      obtain ⟨w9, hw9⟩ : ∃ z, z = w8.drew := ⟨_, rfl⟩
      rw [← hw9]
      have hb9 : Below wa.heap.size wa w9 := by rw [hw9]; exact B8.trans ((below_drewS _).mono B8.size)
      have d9 := (hb9.cell (p := ⟨g2, o2 + k, none⟩) za2).trans d0
      have a9 := (hb9.cell (p := ⟨w.heap.size, k, none⟩) zar).trans ca
      have p3 := (hb9.cell (p := ⟨wr.heap.size, 3, none⟩) za).trans v3
      have HB9 : Hid (Below w.heap.size w w9) := HBa.out.trans (hb9.mono HBa.out.size)
      have HG9 : Hid (OwnI w.heap.size w9 (some ⟨w.heap.size, 0, none⟩) 3 (upF P A k)) := HGa.out.below hb9
      have HZ9 : Hid (OwnI (w.heap.size + 1) w9 (some ⟨w.heap.size + 1, 0, none⟩) 3 (fun _ => 0)) := HZa.out.below hb9
      have HU9 : Hid (OwnI D w9 (some ⟨b1, 0, none⟩) no (outV no V P ld)) := HUa.out.below hb9
      obtain ⟨b9, q9, -, -, -, f9⟩ := HG9.out k (by omega)
      cases q9
      have z9 := hb9.size
      have zg9 : g2 < w9.heap.size := by omega
      have zr9 : w.heap.size < w9.heap.size := by omega
      have zq9 : wr.heap.size < w9.heap.size := by omega
      obtain ⟨Q, hQ⟩ : ∃ z, S + uu * dd = z := ⟨_, rfl⟩
      have HQ0 : Hid (sumF (pgF no V P ld A) (k + 1) = Q + (if (true && decide (ak = 0)) = true then x else 0)) := by show _ = _; rw [HPC.out, ← hQ]; omega
      have q0 : 0 ≤ Q ∧ Q ≤ 100000000000 := by omega
      rw [hQ]
      clear hw9 hb9 hHeld d0 ca cu v2 v3 v4 u8 p2 B8 HPC hQ mb HBa HGa HZa HUa za2 zar zau za zs8 zu8 zp8
      by_cases z0 : ak = 0
      · have b0 : (ak == 0) = true := by rw [z0]; rfl
        have HQ : Hid (sumF (pgF no V P ld A) (k + 1) = Q + x) := by show _ = _; rw [HQ0.out, decide_eq_true z0]; rfl
        clear z0
        go_upto_region 13 with fail
        refine wp_region_held_drew (S := fun w' => w'.cell? ⟨g2, o2 + k, none⟩ = some (.bool true) ∧ w'.cell? ⟨wr.heap.size, 3, none⟩ = some (.int .i64 x)) (by kernel_rfl) ?_ (fun hHeld => ?_)
        · exact keepLB d9 p3 zg9 zq9 (by repeat (first | with_reducible exact Below.refl _ _ | with_reducible refine Below.setCell ?_ (by first | omega | (simp; done) | (simp; omega)) _ | with_reducible refine bDrewN ?_ _ | with_reducible refine Below.drew ?_ | with_reducible refine Below.alloc ?_ (by first | omega | (simp; done) | (simp; omega)) _))
        refine wpAnyH_take (i := 0) (v := .int .i64 (k : Int)) rfl (by kernel_rfl) (by kernel_rfl) (by kernel_rfl) (fun _ _ _ h => h) (Or.inl ⟨by kernel_rfl, ?_⟩) hHeld ?_
        · intro w' hSw
          obtain ⟨s0, s1⟩ := hSw
          first | (go_simp; done) | (go_simp; with_reducible rfl) | (go_simp; rw [IntKind.wrap_i64]; omega) | (go_simp; omega)
        simp only [Act.put, List.setIfInBounds_toArray, List.set_cons_zero, List.set_cons_succ]
        refine wpAnyH_take (i := 1) (v := .int .i64 (k : Int)) rfl (by kernel_rfl) (by kernel_rfl) (by kernel_rfl) (fun _ _ _ h => h) (Or.inl ⟨by kernel_rfl, ?_⟩) hHeld ?_
        · intro w' hSw
          obtain ⟨s0, s1⟩ := hSw
          first | (go_simp; done) | (go_simp; with_reducible rfl) | (go_simp; rw [IntKind.wrap_i64]; omega) | (go_simp; omega)
        simp only [Act.put, List.setIfInBounds_toArray, List.set_cons_zero, List.set_cons_succ]
        refine wpAnyH_take (i := 2) (v := .pointer (some ⟨w.heap.size, k, none⟩)) rfl (by kernel_rfl) (by kernel_rfl) (by kernel_rfl) (fun _ _ _ h => h) (Or.inl ⟨by kernel_rfl, ?_⟩) hHeld ?_
        · intro w' hSw
          obtain ⟨s0, s1⟩ := hSw
          first | (go_simp; done) | (go_simp; with_reducible rfl) | (go_simp; rw [IntKind.wrap_i64]; omega) | (go_simp; omega)
        simp only [Act.put, List.setIfInBounds_toArray, List.set_cons_zero, List.set_cons_succ]
        refine wpAnyH_take (i := 4) (v := .slice (some ⟨g2, o2, none⟩) no m) rfl (by kernel_rfl) (by kernel_rfl) (by kernel_rfl) (fun _ _ _ h => h) (Or.inl ⟨by kernel_rfl, ?_⟩) hHeld ?_
        · intro w' hSw
          obtain ⟨s0, s1⟩ := hSw
          first | (go_simp; done) | (go_simp; with_reducible rfl) | (go_simp; rw [IntKind.wrap_i64]; omega) | (go_simp; omega)
        simp only [Act.put, List.setIfInBounds_toArray, List.set_cons_zero, List.set_cons_succ]
        refine wpAnyH_take (i := 5) (v := .int .i64 (k : Int)) rfl (by kernel_rfl) (by kernel_rfl) (by kernel_rfl) (fun _ _ _ h => h) (Or.inl ⟨by kernel_rfl, ?_⟩) hHeld ?_
        · intro w' hSw
          obtain ⟨s0, s1⟩ := hSw
          first | (go_simp; done) | (go_simp; with_reducible rfl) | (go_simp; rw [IntKind.wrap_i64]; omega) | (go_simp; omega)
        simp only [Act.put, List.setIfInBounds_toArray, List.set_cons_zero, List.set_cons_succ]
        refine wpAnyH_take (i := 6) (v := .pointer (some ⟨g2, o2 + k, none⟩)) rfl (by kernel_rfl) (by kernel_rfl) (by kernel_rfl) (fun _ _ _ h => h) (Or.inl ⟨by kernel_rfl, ?_⟩) hHeld ?_
        · intro w' hSw
          obtain ⟨s0, s1⟩ := hSw
          first | (go_simp; done) | (go_simp; with_reducible rfl) | (go_simp; rw [IntKind.wrap_i64]; omega) | (go_simp; omega)
        simp only [Act.put, List.setIfInBounds_toArray, List.set_cons_zero, List.set_cons_succ]
        refine wpAnyH_take (i := 7) (v := .bool true) rfl (by kernel_rfl) (by kernel_rfl) (by kernel_rfl) (fun _ _ _ h => h) (Or.inl ⟨by kernel_rfl, ?_⟩) hHeld ?_
        · intro w' hSw
          obtain ⟨s0, s1⟩ := hSw
          first | (go_simp; done) | (go_simp; with_reducible rfl) | (go_simp; rw [IntKind.wrap_i64]; omega) | (go_simp; omega)
        simp only [Act.put, List.setIfInBounds_toArray, List.set_cons_zero, List.set_cons_succ]
        refine wpAnyH_ready (rs := [3]) (by kernel_rfl) (by simp) ?_
        refine AllReadyH.cons rfl (fun KK hK => ?_) AllReadyH.nil
        go_simp
        refine hK.out _ _ (hHeld) (fun hHeld => ?_)
        clear hK KK
        refine wpAnyH_ready (rs := [8]) (by kernel_rfl) (by simp) ?_
        refine AllReadyH.cons rfl (fun KK hK => ?_) AllReadyH.nil
        go_simp
        go_wp2_with (first | (go_at_call 69; refine (ranOn_any _ _ _ ha.1 (by omega)).mono ?_; rintro e w7 ⟨rfl, h7⟩; have B7 : Below w9.heap.size w9 w7 := h7 ▸ (by repeat (first | with_reducible exact Below.refl _ _ | with_reducible refine Below.setCell ?_ (by first | omega | (simp; done) | (simp; omega)) _ | with_reducible refine bDrewN ?_ _ | with_reducible refine Below.drew ?_ | with_reducible refine Below.alloc ?_ (by first | omega | (simp; done) | (simp; omega)) _)); clear h7))
        refine hK.out _ _ (keepLB d9 p3 zg9 zq9 B7) (fun hHeld => ?_)
        clear hK KK
        refine wpAnyH_take (i := 9) (v := .pointer (some ⟨w.heap.size, k, none⟩)) rfl (by kernel_rfl) (by kernel_rfl) (by kernel_rfl) (fun _ _ _ h => h) (Or.inl ⟨by kernel_rfl, ?_⟩) hHeld ?_
        · intro w' hSw
          obtain ⟨s0, s1⟩ := hSw
          first | (go_simp; done) | (go_simp; with_reducible rfl) | (go_simp; rw [IntKind.wrap_i64]; omega) | (go_simp; omega)
        simp only [Act.put, List.setIfInBounds_toArray, List.set_cons_zero, List.set_cons_succ]
        have a7 := (B7.cell (p := ⟨w.heap.size, k, none⟩) zr9).trans a9
        have f7 := (B7.frozen (p := ⟨w.heap.size, k, none⟩) zr9).trans f9
        refine wpAnyH_ready (rs := [10]) (by kernel_rfl) (by simp) ?_
        refine AllReadyH.cons rfl (fun KK hK => ?_) AllReadyH.nil
        go_simp
        have HGn : Hid (OwnI w.heap.size (w7.setCell ⟨w.heap.size, k, none⟩ (.int .i64 (ak + 1))) (some ⟨w.heap.size, 0, none⟩) 3 (upF P A (k + 1))) := own_setM (HG9.out.below B7) (fun i _ => HUP.out i)
        have BS : Beside w.heap.size w7 (w7.setCell ⟨w.heap.size, k, none⟩ (.int .i64 (ak + 1))) := Beside.setCell _ _ _ _
        have HZn : Hid (OwnI (w.heap.size + 1) (w7.setCell ⟨w.heap.size, k, none⟩ (.int .i64 (ak + 1))) (some ⟨w.heap.size + 1, 0, none⟩) 3 (fun _ => 0)) := (HZ9.out.below B7).beside BS (by omega)
        have HUn : Hid (OwnI D (w7.setCell ⟨w.heap.size, k, none⟩ (.int .i64 (ak + 1))) (some ⟨b1, 0, none⟩) no (outV no V P ld)) := (HU9.out.below B7).beside BS (by omega)
        have HBn : Hid (Below w.heap.size w (w7.setCell ⟨w.heap.size, k, none⟩ (.int .i64 (ak + 1)))) := set_belowM (HB9.out.trans (B7.mono HB9.out.size)) (Nat.le_refl _) (by have := HB9.out.size; have := B7.size; omega)
        obtain ⟨wn, hwn⟩ : ∃ z, z = w7.setCell ⟨w.heap.size, k, none⟩ (.int .i64 (ak + 1)) := ⟨_, rfl⟩
        rw [← hwn] at HGn HZn HUn HBn BS ⊢
        have zg7 : g2 < w7.heap.size := Nat.lt_of_lt_of_le zg9 B7.size
        have zq7 : wr.heap.size < w7.heap.size := Nat.lt_of_lt_of_le zq9 B7.size
        refine hK.out _ _ ⟨(BS.cell (p := ⟨g2, o2 + k, none⟩) zg7 (by show g2 ≠ w.heap.size; omega)).trans hHeld.1, (BS.cell (p := ⟨wr.heap.size, 3, none⟩) zq7 (by show wr.heap.size ≠ w.heap.size; omega)).trans hHeld.2⟩ (fun hHeld => ?_)
        clear hK KK
        refine wpAnyH_done (by kernel_rfl) ?_ _
        clear hHeld hwn BS a7 f7 a9 d9 p3 f9 HG9 HZ9 HU9 HB9
        go_wp2
        go_roundw
        case rel => exact ⟨k + 1, by omega, by go_num, by rw [HQ.out], ball_succP HP.out HKK.out, HGn.out, HZn.out, HUn.out, HBn.out⟩
        case measure => first | (simp [intOf]; done) | (simp [intOf]; omega)
      · have b0 : (ak == 0) = false := by simpa using z0
        have HQ : Hid (sumF (pgF no V P ld A) (k + 1) = Q) := by show _ = _; rw [HQ0.out, decide_eq_false z0]; simp
        clear z0
        go_upto_region 13 with fail
        refine wp_region_held_drew (S := fun w' => w'.cell? ⟨g2, o2 + k, none⟩ = some (.bool true) ∧ w'.cell? ⟨wr.heap.size, 3, none⟩ = some (.int .i64 x)) (by kernel_rfl) ?_ (fun hHeld => ?_)
        · exact keepLB d9 p3 zg9 zq9 (by repeat (first | with_reducible exact Below.refl _ _ | with_reducible refine Below.setCell ?_ (by first | omega | (simp; done) | (simp; omega)) _ | with_reducible refine bDrewN ?_ _ | with_reducible refine Below.drew ?_ | with_reducible refine Below.alloc ?_ (by first | omega | (simp; done) | (simp; omega)) _))
        refine wpAnyH_take (i := 0) (v := .int .i64 (k : Int)) rfl (by kernel_rfl) (by kernel_rfl) (by kernel_rfl) (fun _ _ _ h => h) (Or.inl ⟨by kernel_rfl, ?_⟩) hHeld ?_
        · intro w' hSw
          obtain ⟨s0, s1⟩ := hSw
          first | (go_simp; done) | (go_simp; with_reducible rfl) | (go_simp; rw [IntKind.wrap_i64]; omega) | (go_simp; omega)
        simp only [Act.put, List.setIfInBounds_toArray, List.set_cons_zero, List.set_cons_succ]
        refine wpAnyH_take (i := 1) (v := .int .i64 (k : Int)) rfl (by kernel_rfl) (by kernel_rfl) (by kernel_rfl) (fun _ _ _ h => h) (Or.inl ⟨by kernel_rfl, ?_⟩) hHeld ?_
        · intro w' hSw
          obtain ⟨s0, s1⟩ := hSw
          first | (go_simp; done) | (go_simp; with_reducible rfl) | (go_simp; rw [IntKind.wrap_i64]; omega) | (go_simp; omega)
        simp only [Act.put, List.setIfInBounds_toArray, List.set_cons_zero, List.set_cons_succ]
        refine wpAnyH_take (i := 2) (v := .pointer (some ⟨w.heap.size, k, none⟩)) rfl (by kernel_rfl) (by kernel_rfl) (by kernel_rfl) (fun _ _ _ h => h) (Or.inl ⟨by kernel_rfl, ?_⟩) hHeld ?_
        · intro w' hSw
          obtain ⟨s0, s1⟩ := hSw
          first | (go_simp; done) | (go_simp; with_reducible rfl) | (go_simp; rw [IntKind.wrap_i64]; omega) | (go_simp; omega)
        simp only [Act.put, List.setIfInBounds_toArray, List.set_cons_zero, List.set_cons_succ]
        refine wpAnyH_take (i := 4) (v := .slice (some ⟨g2, o2, none⟩) no m) rfl (by kernel_rfl) (by kernel_rfl) (by kernel_rfl) (fun _ _ _ h => h) (Or.inl ⟨by kernel_rfl, ?_⟩) hHeld ?_
        · intro w' hSw
          obtain ⟨s0, s1⟩ := hSw
          first | (go_simp; done) | (go_simp; with_reducible rfl) | (go_simp; rw [IntKind.wrap_i64]; omega) | (go_simp; omega)
        simp only [Act.put, List.setIfInBounds_toArray, List.set_cons_zero, List.set_cons_succ]
        refine wpAnyH_take (i := 5) (v := .int .i64 (k : Int)) rfl (by kernel_rfl) (by kernel_rfl) (by kernel_rfl) (fun _ _ _ h => h) (Or.inl ⟨by kernel_rfl, ?_⟩) hHeld ?_
        · intro w' hSw
          obtain ⟨s0, s1⟩ := hSw
          first | (go_simp; done) | (go_simp; with_reducible rfl) | (go_simp; rw [IntKind.wrap_i64]; omega) | (go_simp; omega)
        simp only [Act.put, List.setIfInBounds_toArray, List.set_cons_zero, List.set_cons_succ]
        refine wpAnyH_take (i := 6) (v := .pointer (some ⟨g2, o2 + k, none⟩)) rfl (by kernel_rfl) (by kernel_rfl) (by kernel_rfl) (fun _ _ _ h => h) (Or.inl ⟨by kernel_rfl, ?_⟩) hHeld ?_
        · intro w' hSw
          obtain ⟨s0, s1⟩ := hSw
          first | (go_simp; done) | (go_simp; with_reducible rfl) | (go_simp; rw [IntKind.wrap_i64]; omega) | (go_simp; omega)
        simp only [Act.put, List.setIfInBounds_toArray, List.set_cons_zero, List.set_cons_succ]
        refine wpAnyH_take (i := 7) (v := .bool true) rfl (by kernel_rfl) (by kernel_rfl) (by kernel_rfl) (fun _ _ _ h => h) (Or.inl ⟨by kernel_rfl, ?_⟩) hHeld ?_
        · intro w' hSw
          obtain ⟨s0, s1⟩ := hSw
          first | (go_simp; done) | (go_simp; with_reducible rfl) | (go_simp; rw [IntKind.wrap_i64]; omega) | (go_simp; omega)
        simp only [Act.put, List.setIfInBounds_toArray, List.set_cons_zero, List.set_cons_succ]
        refine wpAnyH_ready (rs := [3]) (by kernel_rfl) (by simp) ?_
        refine AllReadyH.cons rfl (fun KK hK => ?_) AllReadyH.nil
        go_simp
        refine hK.out _ _ (hHeld) (fun hHeld => ?_)
        clear hK KK
        refine wpAnyH_ready (rs := [8]) (by kernel_rfl) (by simp) ?_
        refine AllReadyH.cons rfl (fun KK hK => ?_) AllReadyH.nil
        go_simp
        go_wp2_with (first | (go_at_call 69; refine (ranOn_any _ _ _ ha.1 (by omega)).mono ?_; rintro e w7 ⟨rfl, h7⟩; have B7 : Below w9.heap.size w9 w7 := h7 ▸ (by repeat (first | with_reducible exact Below.refl _ _ | with_reducible refine Below.setCell ?_ (by first | omega | (simp; done) | (simp; omega)) _ | with_reducible refine bDrewN ?_ _ | with_reducible refine Below.drew ?_ | with_reducible refine Below.alloc ?_ (by first | omega | (simp; done) | (simp; omega)) _)); clear h7))
        refine hK.out _ _ (keepLB d9 p3 zg9 zq9 B7) (fun hHeld => ?_)
        clear hK KK
        refine wpAnyH_take (i := 9) (v := .pointer (some ⟨w.heap.size, k, none⟩)) rfl (by kernel_rfl) (by kernel_rfl) (by kernel_rfl) (fun _ _ _ h => h) (Or.inl ⟨by kernel_rfl, ?_⟩) hHeld ?_
        · intro w' hSw
          obtain ⟨s0, s1⟩ := hSw
          first | (go_simp; done) | (go_simp; with_reducible rfl) | (go_simp; rw [IntKind.wrap_i64]; omega) | (go_simp; omega)
        simp only [Act.put, List.setIfInBounds_toArray, List.set_cons_zero, List.set_cons_succ]
        have a7 := (B7.cell (p := ⟨w.heap.size, k, none⟩) zr9).trans a9
        have f7 := (B7.frozen (p := ⟨w.heap.size, k, none⟩) zr9).trans f9
        refine wpAnyH_ready (rs := [10]) (by kernel_rfl) (by simp) ?_
        refine AllReadyH.cons rfl (fun KK hK => ?_) AllReadyH.nil
        go_simp
        have HGn : Hid (OwnI w.heap.size (w7.setCell ⟨w.heap.size, k, none⟩ (.int .i64 (ak + 1))) (some ⟨w.heap.size, 0, none⟩) 3 (upF P A (k + 1))) := own_setM (HG9.out.below B7) (fun i _ => HUP.out i)
        have BS : Beside w.heap.size w7 (w7.setCell ⟨w.heap.size, k, none⟩ (.int .i64 (ak + 1))) := Beside.setCell _ _ _ _
        have HZn : Hid (OwnI (w.heap.size + 1) (w7.setCell ⟨w.heap.size, k, none⟩ (.int .i64 (ak + 1))) (some ⟨w.heap.size + 1, 0, none⟩) 3 (fun _ => 0)) := (HZ9.out.below B7).beside BS (by omega)
        have HUn : Hid (OwnI D (w7.setCell ⟨w.heap.size, k, none⟩ (.int .i64 (ak + 1))) (some ⟨b1, 0, none⟩) no (outV no V P ld)) := (HU9.out.below B7).beside BS (by omega)
        have HBn : Hid (Below w.heap.size w (w7.setCell ⟨w.heap.size, k, none⟩ (.int .i64 (ak + 1)))) := set_belowM (HB9.out.trans (B7.mono HB9.out.size)) (Nat.le_refl _) (by have := HB9.out.size; have := B7.size; omega)
        obtain ⟨wn, hwn⟩ : ∃ z, z = w7.setCell ⟨w.heap.size, k, none⟩ (.int .i64 (ak + 1)) := ⟨_, rfl⟩
        rw [← hwn] at HGn HZn HUn HBn BS ⊢
        have zg7 : g2 < w7.heap.size := Nat.lt_of_lt_of_le zg9 B7.size
        have zq7 : wr.heap.size < w7.heap.size := Nat.lt_of_lt_of_le zq9 B7.size
        refine hK.out _ _ ⟨(BS.cell (p := ⟨g2, o2 + k, none⟩) zg7 (by show g2 ≠ w.heap.size; omega)).trans hHeld.1, (BS.cell (p := ⟨wr.heap.size, 3, none⟩) zq7 (by show wr.heap.size ≠ w.heap.size; omega)).trans hHeld.2⟩ (fun hHeld => ?_)
        clear hK KK
        refine wpAnyH_done (by kernel_rfl) ?_ _
        clear hHeld hwn BS a7 f7 a9 d9 p3 f9 HG9 HZ9 HU9 HB9
        go_wp2
        go_roundw
        case rel => exact ⟨k + 1, by omega, by go_num, by rw [HQ.out], ball_succP HP.out HKK.out, HGn.out, HZn.out, HUn.out, HBn.out⟩
        case measure => first | (simp [intOf]; done) | (simp [intOf]; omega)
    case false =>
      cases e5 : inB 1 (y - 1) ak
      case true =>
        have HF : Hid (pokB no V P no ld A = false) := by
          show _ = _
          unfold pokB
          have : decide (∀ i, i < no → pgB V P A i = true) = false := decide_eq_false fun q => by
            have := q k h1
            rw [HGK.out, e5] at this
            cases this
          rw [this, Bool.and_false]
        refine wp_region_held_drew (S := fun w' => w'.cell? ⟨g2, o2 + k, none⟩ = some (.bool false) ∧ w'.cell? ⟨w.heap.size, k, none⟩ = some (.int .i64 ak) ∧ w'.cell? ⟨wr.heap.size, 4, none⟩ = some (.int .i64 y)) (by kernel_rfl) ?_ (fun hHeld => ?_)
        · exact ⟨((below_drewS wa).cell (p := ⟨g2, o2 + k, none⟩) za2).trans d0, ((below_drewS wa).cell (p := ⟨w.heap.size, k, none⟩) zar).trans ca, ((below_drewS wa).cell (p := ⟨wr.heap.size, 4, none⟩) za).trans v4⟩
        refine wpAnyH_take (i := 0) (v := .slice (some ⟨g2, o2, none⟩) no m) rfl (by kernel_rfl) (by kernel_rfl) (by kernel_rfl) (fun _ _ _ h => h) (Or.inl ⟨by kernel_rfl, ?_⟩) hHeld ?_
        · intro w' hSw
          obtain ⟨s0, s1, s2⟩ := hSw
          first | (go_simp; done) | (go_simp; with_reducible rfl) | (go_simp; rw [IntKind.wrap_i64]; omega) | (go_simp; omega)
        simp only [Act.put, List.setIfInBounds_toArray, List.set_cons_zero, List.set_cons_succ]
        refine wpAnyH_take (i := 1) (v := .int .i64 (k : Int)) rfl (by kernel_rfl) (by kernel_rfl) (by kernel_rfl) (fun _ _ _ h => h) (Or.inl ⟨by kernel_rfl, ?_⟩) hHeld ?_
        · intro w' hSw
          obtain ⟨s0, s1, s2⟩ := hSw
          first | (go_simp; done) | (go_simp; with_reducible rfl) | (go_simp; rw [IntKind.wrap_i64]; omega) | (go_simp; omega)
        simp only [Act.put, List.setIfInBounds_toArray, List.set_cons_zero, List.set_cons_succ]
        refine wpAnyH_take (i := 2) (v := .pointer (some ⟨g2, o2 + k, none⟩)) rfl (by kernel_rfl) (by kernel_rfl) (by kernel_rfl) (fun _ _ _ h => h) (Or.inl ⟨by kernel_rfl, ?_⟩) hHeld ?_
        · intro w' hSw
          obtain ⟨s0, s1, s2⟩ := hSw
          first | (go_simp; done) | (go_simp; with_reducible rfl) | (go_simp; rw [IntKind.wrap_i64]; omega) | (go_simp; omega)
        simp only [Act.put, List.setIfInBounds_toArray, List.set_cons_zero, List.set_cons_succ]
        refine wpAnyH_take (i := 3) (v := .bool false) rfl (by kernel_rfl) (by kernel_rfl) (by kernel_rfl) (fun _ _ _ h => h) (Or.inl ⟨by kernel_rfl, ?_⟩) hHeld ?_
        · intro w' hSw
          obtain ⟨s0, s1, s2⟩ := hSw
          first | (go_simp; done) | (go_simp; with_reducible rfl) | (go_simp; rw [IntKind.wrap_i64]; omega) | (go_simp; omega)
        simp only [Act.put, List.setIfInBounds_toArray, List.set_cons_zero, List.set_cons_succ]
        refine wpAnyH_take (i := 4) (v := .bool true) rfl (by kernel_rfl) (by kernel_rfl) (by kernel_rfl) (fun _ _ _ h => h) (Or.inl ⟨by kernel_rfl, ?_⟩) hHeld ?_
        · intro w' hSw
          obtain ⟨s0, s1, s2⟩ := hSw
          first | (go_simp; done) | (go_simp; with_reducible rfl) | (go_simp; rw [IntKind.wrap_i64]; omega) | (go_simp; omega)
        simp only [Act.put, List.setIfInBounds_toArray, List.set_cons_zero, List.set_cons_succ]
        refine wpAnyH_take (i := 5) (v := .bool true) rfl (by kernel_rfl) (by kernel_rfl) (by kernel_rfl) (fun _ _ _ h => h) (Or.inl ⟨by kernel_rfl, ?_⟩) hHeld ?_
        · intro w' hSw
          obtain ⟨s0, s1, s2⟩ := hSw
          first | (go_simp; done) | (go_simp; with_reducible rfl) | (go_simp; rw [IntKind.wrap_i64]; omega) | (go_simp; omega)
        simp only [Act.put, List.setIfInBounds_toArray, List.set_cons_zero, List.set_cons_succ]
        refine wpAnyH_take (i := 6) (v := .int .i64 (k : Int)) rfl (by kernel_rfl) (by kernel_rfl) (by kernel_rfl) (fun _ _ _ h => h) (Or.inl ⟨by kernel_rfl, ?_⟩) hHeld ?_
        · intro w' hSw
          obtain ⟨s0, s1, s2⟩ := hSw
          first | (go_simp; done) | (go_simp; with_reducible rfl) | (go_simp; rw [IntKind.wrap_i64]; omega) | (go_simp; omega)
        simp only [Act.put, List.setIfInBounds_toArray, List.set_cons_zero, List.set_cons_succ]
        refine wpAnyH_take (i := 7) (v := .pointer (some ⟨w.heap.size, k, none⟩)) rfl (by kernel_rfl) (by kernel_rfl) (by kernel_rfl) (fun _ _ _ h => h) (Or.inl ⟨by kernel_rfl, ?_⟩) hHeld ?_
        · intro w' hSw
          obtain ⟨s0, s1, s2⟩ := hSw
          first | (go_simp; done) | (go_simp; with_reducible rfl) | (go_simp; rw [IntKind.wrap_i64]; omega) | (go_simp; omega)
        simp only [Act.put, List.setIfInBounds_toArray, List.set_cons_zero, List.set_cons_succ]
        refine wpAnyH_take (i := 8) (v := .int .i64 ak) rfl (by kernel_rfl) (by kernel_rfl) (by kernel_rfl) (fun _ _ _ h => h) (Or.inl ⟨by kernel_rfl, ?_⟩) hHeld ?_
        · intro w' hSw
          obtain ⟨s0, s1, s2⟩ := hSw
          first | (go_simp; done) | (go_simp; with_reducible rfl) | (go_simp; rw [IntKind.wrap_i64]; omega) | (go_simp; omega)
        simp only [Act.put, List.setIfInBounds_toArray, List.set_cons_zero, List.set_cons_succ]
        refine wpAnyH_take (i := 9) (v := .pointer (some ⟨wr.heap.size, 4, none⟩)) rfl (by kernel_rfl) (by kernel_rfl) (by kernel_rfl) (fun _ _ _ h => h) (Or.inl ⟨by kernel_rfl, ?_⟩) hHeld ?_
        · intro w' hSw
          obtain ⟨s0, s1, s2⟩ := hSw
          first | (go_simp; done) | (go_simp; with_reducible rfl) | (go_simp; rw [IntKind.wrap_i64]; omega) | (go_simp; omega)
        simp only [Act.put, List.setIfInBounds_toArray, List.set_cons_zero, List.set_cons_succ]
        refine wpAnyH_take (i := 10) (v := .int .i64 y) rfl (by kernel_rfl) (by kernel_rfl) (by kernel_rfl) (fun _ _ _ h => h) (Or.inl ⟨by kernel_rfl, ?_⟩) hHeld ?_
        · intro w' hSw
          obtain ⟨s0, s1, s2⟩ := hSw
          first | (go_simp; done) | (go_simp; with_reducible rfl) | (go_simp; rw [IntKind.wrap_i64]; omega) | (go_simp; omega)
        simp only [Act.put, List.setIfInBounds_toArray, List.set_cons_zero, List.set_cons_succ]
        refine wpAnyH_take (i := 11) (v := .int .i64 (y - 1)) rfl (by kernel_rfl) (by kernel_rfl) (by kernel_rfl) (fun _ _ _ h => h) (Or.inl ⟨by kernel_rfl, ?_⟩) hHeld ?_
        · intro w' hSw
          obtain ⟨s0, s1, s2⟩ := hSw
          first | (go_simp; done) | (go_simp; with_reducible rfl) | (go_simp; rw [IntKind.wrap_i64]; omega) | (go_simp; omega)
        simp only [Act.put, List.setIfInBounds_toArray, List.set_cons_zero, List.set_cons_succ]
        refine wpAnyH_ready (rs := [12]) (by kernel_rfl) (by simp) ?_
        refine AllReadyH.cons rfl (fun KK hK => ?_) AllReadyH.nil
        go_simp
        go_wp2_with (first | (go_at_call 40; refine (within_is _ _ _ _).mono ?_; rw [e5]; rintro e w8 ⟨rfl, h7⟩; have B8 : Below wa.heap.size wa w8 := h7 ▸ (by repeat (first | with_reducible exact Below.refl _ _ | with_reducible refine Below.setCell ?_ (by first | omega | (simp; done) | (simp; omega)) _ | with_reducible refine bDrewN ?_ _ | with_reducible refine Below.drew ?_ | with_reducible refine Below.alloc ?_ (by first | omega | (simp; done) | (simp; omega)) _)); clear h7))
        refine hK.out _ _ (⟨(B8.cell (p := ⟨g2, o2 + k, none⟩) za2).trans d0, (B8.cell (p := ⟨w.heap.size, k, none⟩) zar).trans ca, (B8.cell (p := ⟨wr.heap.size, 4, none⟩) za).trans v4⟩) (fun hHeld => ?_)
        clear hK KK
        refine wpAnyH_ready (rs := [13]) (by kernel_rfl) (by simp) ?_
        refine AllReadyH.cons rfl (fun KK hK => ?_) AllReadyH.nil
        go_simp
        refine hK.out _ _ hHeld (fun hHeld => ?_)
        clear hK KK
        refine wpAnyH_done (by kernel_rfl) ?_ _
        have hz8 := HZa.out.below B8
        obtain ⟨b0, q0, -, zz, a0, f0⟩ := hz8 0 (by omega)
        cases q0
        obtain ⟨b0, q0, -, -, a1, f1⟩ := hz8 1 (by omega)
        cases q0
        obtain ⟨b0, q0, -, -, a2, f2⟩ := hz8 2 (by omega)
        cases q0
        have HB := HBa.out.trans (B8.mono HBa.out.size)
        have zb := HB.size
        clear hz8 hHeld
        go_wp2
        exact bodyPost_ret (v := .tuple #[.int .i64 0, .agg #[.int .i64 0, .int .i64 0, .int .i64 0], .bool false]) (by simp [results, Try.results47, go_sem, *]) rfl ⟨0, fun _ => 0, false, HF.out.symm, (fun h => by cases h), rfl, set3M HB (by omega) (by omega)⟩
      case false =>
        have HKK : Hid (pgB V P A k = true) := by show _ = _; rw [HGK.out, e5]; rfl
        refine wp_region_held_drew (S := fun w' => w'.cell? ⟨g2, o2 + k, none⟩ = some (.bool false) ∧ w'.cell? ⟨w.heap.size, k, none⟩ = some (.int .i64 ak) ∧ w'.cell? ⟨wr.heap.size, 4, none⟩ = some (.int .i64 y)) (by kernel_rfl) ?_ (fun hHeld => ?_)
        · exact ⟨((below_drewS wa).cell (p := ⟨g2, o2 + k, none⟩) za2).trans d0, ((below_drewS wa).cell (p := ⟨w.heap.size, k, none⟩) zar).trans ca, ((below_drewS wa).cell (p := ⟨wr.heap.size, 4, none⟩) za).trans v4⟩
        refine wpAnyH_take (i := 0) (v := .slice (some ⟨g2, o2, none⟩) no m) rfl (by kernel_rfl) (by kernel_rfl) (by kernel_rfl) (fun _ _ _ h => h) (Or.inl ⟨by kernel_rfl, ?_⟩) hHeld ?_
        · intro w' hSw
          obtain ⟨s0, s1, s2⟩ := hSw
          first | (go_simp; done) | (go_simp; with_reducible rfl) | (go_simp; rw [IntKind.wrap_i64]; omega) | (go_simp; omega)
        simp only [Act.put, List.setIfInBounds_toArray, List.set_cons_zero, List.set_cons_succ]
        refine wpAnyH_take (i := 1) (v := .int .i64 (k : Int)) rfl (by kernel_rfl) (by kernel_rfl) (by kernel_rfl) (fun _ _ _ h => h) (Or.inl ⟨by kernel_rfl, ?_⟩) hHeld ?_
        · intro w' hSw
          obtain ⟨s0, s1, s2⟩ := hSw
          first | (go_simp; done) | (go_simp; with_reducible rfl) | (go_simp; rw [IntKind.wrap_i64]; omega) | (go_simp; omega)
        simp only [Act.put, List.setIfInBounds_toArray, List.set_cons_zero, List.set_cons_succ]
        refine wpAnyH_take (i := 2) (v := .pointer (some ⟨g2, o2 + k, none⟩)) rfl (by kernel_rfl) (by kernel_rfl) (by kernel_rfl) (fun _ _ _ h => h) (Or.inl ⟨by kernel_rfl, ?_⟩) hHeld ?_
        · intro w' hSw
          obtain ⟨s0, s1, s2⟩ := hSw
          first | (go_simp; done) | (go_simp; with_reducible rfl) | (go_simp; rw [IntKind.wrap_i64]; omega) | (go_simp; omega)
        simp only [Act.put, List.setIfInBounds_toArray, List.set_cons_zero, List.set_cons_succ]
        refine wpAnyH_take (i := 3) (v := .bool false) rfl (by kernel_rfl) (by kernel_rfl) (by kernel_rfl) (fun _ _ _ h => h) (Or.inl ⟨by kernel_rfl, ?_⟩) hHeld ?_
        · intro w' hSw
          obtain ⟨s0, s1, s2⟩ := hSw
          first | (go_simp; done) | (go_simp; with_reducible rfl) | (go_simp; rw [IntKind.wrap_i64]; omega) | (go_simp; omega)
        simp only [Act.put, List.setIfInBounds_toArray, List.set_cons_zero, List.set_cons_succ]
        refine wpAnyH_take (i := 4) (v := .bool true) rfl (by kernel_rfl) (by kernel_rfl) (by kernel_rfl) (fun _ _ _ h => h) (Or.inl ⟨by kernel_rfl, ?_⟩) hHeld ?_
        · intro w' hSw
          obtain ⟨s0, s1, s2⟩ := hSw
          first | (go_simp; done) | (go_simp; with_reducible rfl) | (go_simp; rw [IntKind.wrap_i64]; omega) | (go_simp; omega)
        simp only [Act.put, List.setIfInBounds_toArray, List.set_cons_zero, List.set_cons_succ]
        refine wpAnyH_take (i := 5) (v := .bool true) rfl (by kernel_rfl) (by kernel_rfl) (by kernel_rfl) (fun _ _ _ h => h) (Or.inl ⟨by kernel_rfl, ?_⟩) hHeld ?_
        · intro w' hSw
          obtain ⟨s0, s1, s2⟩ := hSw
          first | (go_simp; done) | (go_simp; with_reducible rfl) | (go_simp; rw [IntKind.wrap_i64]; omega) | (go_simp; omega)
        simp only [Act.put, List.setIfInBounds_toArray, List.set_cons_zero, List.set_cons_succ]
        refine wpAnyH_take (i := 6) (v := .int .i64 (k : Int)) rfl (by kernel_rfl) (by kernel_rfl) (by kernel_rfl) (fun _ _ _ h => h) (Or.inl ⟨by kernel_rfl, ?_⟩) hHeld ?_
        · intro w' hSw
          obtain ⟨s0, s1, s2⟩ := hSw
          first | (go_simp; done) | (go_simp; with_reducible rfl) | (go_simp; rw [IntKind.wrap_i64]; omega) | (go_simp; omega)
        simp only [Act.put, List.setIfInBounds_toArray, List.set_cons_zero, List.set_cons_succ]
        refine wpAnyH_take (i := 7) (v := .pointer (some ⟨w.heap.size, k, none⟩)) rfl (by kernel_rfl) (by kernel_rfl) (by kernel_rfl) (fun _ _ _ h => h) (Or.inl ⟨by kernel_rfl, ?_⟩) hHeld ?_
        · intro w' hSw
          obtain ⟨s0, s1, s2⟩ := hSw
          first | (go_simp; done) | (go_simp; with_reducible rfl) | (go_simp; rw [IntKind.wrap_i64]; omega) | (go_simp; omega)
        simp only [Act.put, List.setIfInBounds_toArray, List.set_cons_zero, List.set_cons_succ]
        refine wpAnyH_take (i := 8) (v := .int .i64 ak) rfl (by kernel_rfl) (by kernel_rfl) (by kernel_rfl) (fun _ _ _ h => h) (Or.inl ⟨by kernel_rfl, ?_⟩) hHeld ?_
        · intro w' hSw
          obtain ⟨s0, s1, s2⟩ := hSw
          first | (go_simp; done) | (go_simp; with_reducible rfl) | (go_simp; rw [IntKind.wrap_i64]; omega) | (go_simp; omega)
        simp only [Act.put, List.setIfInBounds_toArray, List.set_cons_zero, List.set_cons_succ]
        refine wpAnyH_take (i := 9) (v := .pointer (some ⟨wr.heap.size, 4, none⟩)) rfl (by kernel_rfl) (by kernel_rfl) (by kernel_rfl) (fun _ _ _ h => h) (Or.inl ⟨by kernel_rfl, ?_⟩) hHeld ?_
        · intro w' hSw
          obtain ⟨s0, s1, s2⟩ := hSw
          first | (go_simp; done) | (go_simp; with_reducible rfl) | (go_simp; rw [IntKind.wrap_i64]; omega) | (go_simp; omega)
        simp only [Act.put, List.setIfInBounds_toArray, List.set_cons_zero, List.set_cons_succ]
        refine wpAnyH_take (i := 10) (v := .int .i64 y) rfl (by kernel_rfl) (by kernel_rfl) (by kernel_rfl) (fun _ _ _ h => h) (Or.inl ⟨by kernel_rfl, ?_⟩) hHeld ?_
        · intro w' hSw
          obtain ⟨s0, s1, s2⟩ := hSw
          first | (go_simp; done) | (go_simp; with_reducible rfl) | (go_simp; rw [IntKind.wrap_i64]; omega) | (go_simp; omega)
        simp only [Act.put, List.setIfInBounds_toArray, List.set_cons_zero, List.set_cons_succ]
        refine wpAnyH_take (i := 11) (v := .int .i64 (y - 1)) rfl (by kernel_rfl) (by kernel_rfl) (by kernel_rfl) (fun _ _ _ h => h) (Or.inl ⟨by kernel_rfl, ?_⟩) hHeld ?_
        · intro w' hSw
          obtain ⟨s0, s1, s2⟩ := hSw
          first | (go_simp; done) | (go_simp; with_reducible rfl) | (go_simp; rw [IntKind.wrap_i64]; omega) | (go_simp; omega)
        simp only [Act.put, List.setIfInBounds_toArray, List.set_cons_zero, List.set_cons_succ]
        refine wpAnyH_ready (rs := [12]) (by kernel_rfl) (by simp) ?_
        refine AllReadyH.cons rfl (fun KK hK => ?_) AllReadyH.nil
        go_simp
        go_wp2_with (first | (go_at_call 40; refine (within_is _ _ _ _).mono ?_; rw [e5]; rintro e w8 ⟨rfl, h7⟩; have B8 : Below wa.heap.size wa w8 := h7 ▸ (by repeat (first | with_reducible exact Below.refl _ _ | with_reducible refine Below.setCell ?_ (by first | omega | (simp; done) | (simp; omega)) _ | with_reducible refine bDrewN ?_ _ | with_reducible refine Below.drew ?_ | with_reducible refine Below.alloc ?_ (by first | omega | (simp; done) | (simp; omega)) _)); clear h7))
        refine hK.out _ _ (⟨(B8.cell (p := ⟨g2, o2 + k, none⟩) za2).trans d0, (B8.cell (p := ⟨w.heap.size, k, none⟩) zar).trans ca, (B8.cell (p := ⟨wr.heap.size, 4, none⟩) za).trans v4⟩) (fun hHeld => ?_)
        clear hK KK
        refine wpAnyH_ready (rs := [13]) (by kernel_rfl) (by simp) ?_
        refine AllReadyH.cons rfl (fun KK hK => ?_) AllReadyH.nil
        go_simp
        refine hK.out _ _ hHeld (fun hHeld => ?_)
        clear hK KK
        refine wpAnyH_done (by kernel_rfl) ?_ _
        clear hHeld
        have u8 := (B8.cell (p := ⟨b1, k, none⟩) zau).trans cu
        have p2 := (B8.cell (p := ⟨wr.heap.size, 2, none⟩) za).trans v2
        have zs8 := B8.size
        have zu8 : b1 < w8.heap.size := by omega
        have zp8 : wr.heap.size < w8.heap.size := by omega
        go_upto_region 10 with fail
        refine wp_region_held_drew (S := fun w' => w'.cell? ⟨b1, k, none⟩ = some (.int .i64 uu) ∧ w'.cell? ⟨wr.heap.size, 2, none⟩ = some (.int .i64 dd)) (by kernel_rfl) ?_ (fun hHeld => ?_)
        · exact keepLB u8 p2 zu8 zp8 (by repeat (first | with_reducible exact Below.refl _ _ | with_reducible refine Below.setCell ?_ (by first | omega | (simp; done) | (simp; omega)) _ | with_reducible refine bDrewN ?_ _ | with_reducible refine Below.drew ?_ | with_reducible refine Below.alloc ?_ (by first | omega | (simp; done) | (simp; omega)) _))
        refine wpAnyH_take (i := 0) (v := .int .i64 S) rfl (by kernel_rfl) (by kernel_rfl) (by kernel_rfl) (fun _ _ _ h => h) (Or.inl ⟨by kernel_rfl, ?_⟩) hHeld ?_
        · intro w' hSw
          obtain ⟨s0, s1⟩ := hSw
          first | (go_simp; done) | (go_simp; with_reducible rfl) | (go_simp; rw [IntKind.wrap_i64]; omega) | (go_simp; omega)
        simp only [Act.put, List.setIfInBounds_toArray, List.set_cons_zero, List.set_cons_succ]
        refine wpAnyH_take (i := 1) (v := .slice (some ⟨b1, 0, none⟩) no cp) rfl (by kernel_rfl) (by kernel_rfl) (by kernel_rfl) (fun _ _ _ h => h) (Or.inl ⟨by kernel_rfl, ?_⟩) hHeld ?_
        · intro w' hSw
          obtain ⟨s0, s1⟩ := hSw
          first | (go_simp; done) | (go_simp; with_reducible rfl) | (go_simp; rw [IntKind.wrap_i64]; omega) | (go_simp; omega)
        simp only [Act.put, List.setIfInBounds_toArray, List.set_cons_zero, List.set_cons_succ]
        refine wpAnyH_take (i := 2) (v := .int .i64 (k : Int)) rfl (by kernel_rfl) (by kernel_rfl) (by kernel_rfl) (fun _ _ _ h => h) (Or.inl ⟨by kernel_rfl, ?_⟩) hHeld ?_
        · intro w' hSw
          obtain ⟨s0, s1⟩ := hSw
          first | (go_simp; done) | (go_simp; with_reducible rfl) | (go_simp; rw [IntKind.wrap_i64]; omega) | (go_simp; omega)
        simp only [Act.put, List.setIfInBounds_toArray, List.set_cons_zero, List.set_cons_succ]
        refine wpAnyH_take (i := 3) (v := .pointer (some ⟨b1, k, none⟩)) rfl (by kernel_rfl) (by kernel_rfl) (by kernel_rfl) (fun _ _ _ h => h) (Or.inl ⟨by kernel_rfl, ?_⟩) hHeld ?_
        · intro w' hSw
          obtain ⟨s0, s1⟩ := hSw
          first | (go_simp; done) | (go_simp; with_reducible rfl) | (go_simp; rw [IntKind.wrap_i64]; omega) | (go_simp; omega)
        simp only [Act.put, List.setIfInBounds_toArray, List.set_cons_zero, List.set_cons_succ]
        refine wpAnyH_take (i := 4) (v := .int .i64 uu) rfl (by kernel_rfl) (by kernel_rfl) (by kernel_rfl) (fun _ _ _ h => h) (Or.inl ⟨by kernel_rfl, ?_⟩) hHeld ?_
        · intro w' hSw
          obtain ⟨s0, s1⟩ := hSw
          first | (go_simp; done) | (go_simp; with_reducible rfl) | (go_simp; rw [IntKind.wrap_i64]; omega) | (go_simp; omega)
        simp only [Act.put, List.setIfInBounds_toArray, List.set_cons_zero, List.set_cons_succ]
        refine wpAnyH_take (i := 5) (v := .pointer (some ⟨wr.heap.size, 2, none⟩)) rfl (by kernel_rfl) (by kernel_rfl) (by kernel_rfl) (fun _ _ _ h => h) (Or.inl ⟨by kernel_rfl, ?_⟩) hHeld ?_
        · intro w' hSw
          obtain ⟨s0, s1⟩ := hSw
          first | (go_simp; done) | (go_simp; with_reducible rfl) | (go_simp; rw [IntKind.wrap_i64]; omega) | (go_simp; omega)
        simp only [Act.put, List.setIfInBounds_toArray, List.set_cons_zero, List.set_cons_succ]
        refine wpAnyH_take (i := 6) (v := .int .i64 dd) rfl (by kernel_rfl) (by kernel_rfl) (by kernel_rfl) (fun _ _ _ h => h) (Or.inl ⟨by kernel_rfl, ?_⟩) hHeld ?_
        · intro w' hSw
          obtain ⟨s0, s1⟩ := hSw
          first | (go_simp; done) | (go_simp; with_reducible rfl) | (go_simp; rw [IntKind.wrap_i64]; omega) | (go_simp; omega)
        simp only [Act.put, List.setIfInBounds_toArray, List.set_cons_zero, List.set_cons_succ]
        refine wpAnyH_take (i := 7) (v := .int .i64 (uu * dd)) rfl (by kernel_rfl) (by kernel_rfl) (by kernel_rfl) (fun _ _ _ h => h) (Or.inl ⟨by kernel_rfl, ?_⟩) hHeld ?_
        · intro w' hSw
          obtain ⟨s0, s1⟩ := hSw
          first | (go_simp; done) | (go_simp; with_reducible rfl) | (go_simp; rw [IntKind.wrap_i64]; omega) | (go_simp; omega)
        simp only [Act.put, List.setIfInBounds_toArray, List.set_cons_zero, List.set_cons_succ]
        refine wpAnyH_take (i := 8) (v := .int .i64 (S + uu * dd)) rfl (by kernel_rfl) (by kernel_rfl) (by kernel_rfl) (fun _ _ _ h => h) (Or.inl ⟨by kernel_rfl, ?_⟩) hHeld ?_
        · intro w' hSw
          obtain ⟨s0, s1⟩ := hSw
          first | (go_simp; done) | (go_simp; with_reducible rfl) | (go_simp; rw [IntKind.wrap_i64]; omega) | (go_simp; omega)
        simp only [Act.put, List.setIfInBounds_toArray, List.set_cons_zero, List.set_cons_succ]
        refine wpAnyH_ready (rs := [9]) (by kernel_rfl) (by simp) ?_
        refine AllReadyH.cons rfl (fun KK hK => ?_) AllReadyH.nil
        go_simp
        refine hK.out _ _ hHeld (fun hHeld => ?_)
        clear hK KK
        refine wpAnyH_done (by kernel_rfl) ?_ _
        obtain ⟨w9, hw9⟩ : ∃ z, z = w8.drew := ⟨_, rfl⟩
        rw [← hw9]
        have hb9 : Below wa.heap.size wa w9 := by rw [hw9]; exact B8.trans ((below_drewS _).mono B8.size)
        have d9 := (hb9.cell (p := ⟨g2, o2 + k, none⟩) za2).trans d0
        have a9 := (hb9.cell (p := ⟨w.heap.size, k, none⟩) zar).trans ca
        have p3 := (hb9.cell (p := ⟨wr.heap.size, 3, none⟩) za).trans v3
        have HB9 : Hid (Below w.heap.size w w9) := HBa.out.trans (hb9.mono HBa.out.size)
        have HG9 : Hid (OwnI w.heap.size w9 (some ⟨w.heap.size, 0, none⟩) 3 (upF P A k)) := HGa.out.below hb9
        have HZ9 : Hid (OwnI (w.heap.size + 1) w9 (some ⟨w.heap.size + 1, 0, none⟩) 3 (fun _ => 0)) := HZa.out.below hb9
        have HU9 : Hid (OwnI D w9 (some ⟨b1, 0, none⟩) no (outV no V P ld)) := HUa.out.below hb9
        obtain ⟨b9, q9, -, -, -, f9⟩ := HG9.out k (by omega)
        cases q9
        have z9 := hb9.size
        have zg9 : g2 < w9.heap.size := by omega
        have zr9 : w.heap.size < w9.heap.size := by omega
        have zq9 : wr.heap.size < w9.heap.size := by omega
        obtain ⟨Q, hQ⟩ : ∃ z, S + uu * dd = z := ⟨_, rfl⟩
        have HQ0 : Hid (sumF (pgF no V P ld A) (k + 1) = Q + (if (false && decide (ak = 0)) = true then x else 0)) := by show _ = _; rw [HPC.out, ← hQ]; omega
        have q0 : 0 ≤ Q ∧ Q ≤ 100000000000 := by omega
        rw [hQ]
        clear hw9 hb9 hHeld d0 ca cu v2 v3 v4 u8 p2 B8 HPC hQ mb HBa HGa HZa HUa za2 zar zau za zs8 zu8 zp8
        have HQ : Hid (sumF (pgF no V P ld A) (k + 1) = Q) := by show _ = _; rw [HQ0.out]; simp
        go_upto_region 13 with fail
        refine wp_region_held_drew (S := fun w' => w'.cell? ⟨g2, o2 + k, none⟩ = some (.bool false) ∧ w'.cell? ⟨wr.heap.size, 3, none⟩ = some (.int .i64 x)) (by kernel_rfl) ?_ (fun hHeld => ?_)
        · exact keepLB d9 p3 zg9 zq9 (by repeat (first | with_reducible exact Below.refl _ _ | with_reducible refine Below.setCell ?_ (by first | omega | (simp; done) | (simp; omega)) _ | with_reducible refine bDrewN ?_ _ | with_reducible refine Below.drew ?_ | with_reducible refine Below.alloc ?_ (by first | omega | (simp; done) | (simp; omega)) _))
        refine wpAnyH_take (i := 0) (v := .int .i64 (k : Int)) rfl (by kernel_rfl) (by kernel_rfl) (by kernel_rfl) (fun _ _ _ h => h) (Or.inl ⟨by kernel_rfl, ?_⟩) hHeld ?_
        · intro w' hSw
          obtain ⟨s0, s1⟩ := hSw
          first | (go_simp; done) | (go_simp; with_reducible rfl) | (go_simp; rw [IntKind.wrap_i64]; omega) | (go_simp; omega)
        simp only [Act.put, List.setIfInBounds_toArray, List.set_cons_zero, List.set_cons_succ]
        refine wpAnyH_take (i := 1) (v := .int .i64 (k : Int)) rfl (by kernel_rfl) (by kernel_rfl) (by kernel_rfl) (fun _ _ _ h => h) (Or.inl ⟨by kernel_rfl, ?_⟩) hHeld ?_
        · intro w' hSw
          obtain ⟨s0, s1⟩ := hSw
          first | (go_simp; done) | (go_simp; with_reducible rfl) | (go_simp; rw [IntKind.wrap_i64]; omega) | (go_simp; omega)
        simp only [Act.put, List.setIfInBounds_toArray, List.set_cons_zero, List.set_cons_succ]
        refine wpAnyH_take (i := 2) (v := .pointer (some ⟨w.heap.size, k, none⟩)) rfl (by kernel_rfl) (by kernel_rfl) (by kernel_rfl) (fun _ _ _ h => h) (Or.inl ⟨by kernel_rfl, ?_⟩) hHeld ?_
        · intro w' hSw
          obtain ⟨s0, s1⟩ := hSw
          first | (go_simp; done) | (go_simp; with_reducible rfl) | (go_simp; rw [IntKind.wrap_i64]; omega) | (go_simp; omega)
        simp only [Act.put, List.setIfInBounds_toArray, List.set_cons_zero, List.set_cons_succ]
        refine wpAnyH_take (i := 4) (v := .slice (some ⟨g2, o2, none⟩) no m) rfl (by kernel_rfl) (by kernel_rfl) (by kernel_rfl) (fun _ _ _ h => h) (Or.inl ⟨by kernel_rfl, ?_⟩) hHeld ?_
        · intro w' hSw
          obtain ⟨s0, s1⟩ := hSw
          first | (go_simp; done) | (go_simp; with_reducible rfl) | (go_simp; rw [IntKind.wrap_i64]; omega) | (go_simp; omega)
        simp only [Act.put, List.setIfInBounds_toArray, List.set_cons_zero, List.set_cons_succ]
        refine wpAnyH_take (i := 5) (v := .int .i64 (k : Int)) rfl (by kernel_rfl) (by kernel_rfl) (by kernel_rfl) (fun _ _ _ h => h) (Or.inl ⟨by kernel_rfl, ?_⟩) hHeld ?_
        · intro w' hSw
          obtain ⟨s0, s1⟩ := hSw
          first | (go_simp; done) | (go_simp; with_reducible rfl) | (go_simp; rw [IntKind.wrap_i64]; omega) | (go_simp; omega)
        simp only [Act.put, List.setIfInBounds_toArray, List.set_cons_zero, List.set_cons_succ]
        refine wpAnyH_take (i := 6) (v := .pointer (some ⟨g2, o2 + k, none⟩)) rfl (by kernel_rfl) (by kernel_rfl) (by kernel_rfl) (fun _ _ _ h => h) (Or.inl ⟨by kernel_rfl, ?_⟩) hHeld ?_
        · intro w' hSw
          obtain ⟨s0, s1⟩ := hSw
          first | (go_simp; done) | (go_simp; with_reducible rfl) | (go_simp; rw [IntKind.wrap_i64]; omega) | (go_simp; omega)
        simp only [Act.put, List.setIfInBounds_toArray, List.set_cons_zero, List.set_cons_succ]
        refine wpAnyH_take (i := 7) (v := .bool false) rfl (by kernel_rfl) (by kernel_rfl) (by kernel_rfl) (fun _ _ _ h => h) (Or.inl ⟨by kernel_rfl, ?_⟩) hHeld ?_
        · intro w' hSw
          obtain ⟨s0, s1⟩ := hSw
          first | (go_simp; done) | (go_simp; with_reducible rfl) | (go_simp; rw [IntKind.wrap_i64]; omega) | (go_simp; omega)
        simp only [Act.put, List.setIfInBounds_toArray, List.set_cons_zero, List.set_cons_succ]
        refine wpAnyH_ready (rs := [3]) (by kernel_rfl) (by simp) ?_
        refine AllReadyH.cons rfl (fun KK hK => ?_) AllReadyH.nil
        go_simp
        refine hK.out _ _ (hHeld) (fun hHeld => ?_)
        clear hK KK
        refine wpAnyH_ready (rs := [8]) (by kernel_rfl) (by simp) ?_
        refine AllReadyH.cons rfl (fun KK hK => ?_) AllReadyH.nil
        go_simp
        go_wp2_with (first | (go_at_call 69; refine (ranOn_any _ _ _ ha.1 (by omega)).mono ?_; rintro e w7 ⟨rfl, h7⟩; have B7 : Below w9.heap.size w9 w7 := h7 ▸ (by repeat (first | with_reducible exact Below.refl _ _ | with_reducible refine Below.setCell ?_ (by first | omega | (simp; done) | (simp; omega)) _ | with_reducible refine bDrewN ?_ _ | with_reducible refine Below.drew ?_ | with_reducible refine Below.alloc ?_ (by first | omega | (simp; done) | (simp; omega)) _)); clear h7))
        refine hK.out _ _ (keepLB d9 p3 zg9 zq9 B7) (fun hHeld => ?_)
        clear hK KK
        refine wpAnyH_take (i := 9) (v := .pointer (some ⟨w.heap.size, k, none⟩)) rfl (by kernel_rfl) (by kernel_rfl) (by kernel_rfl) (fun _ _ _ h => h) (Or.inl ⟨by kernel_rfl, ?_⟩) hHeld ?_
        · intro w' hSw
          obtain ⟨s0, s1⟩ := hSw
          first | (go_simp; done) | (go_simp; with_reducible rfl) | (go_simp; rw [IntKind.wrap_i64]; omega) | (go_simp; omega)
        simp only [Act.put, List.setIfInBounds_toArray, List.set_cons_zero, List.set_cons_succ]
        have a7 := (B7.cell (p := ⟨w.heap.size, k, none⟩) zr9).trans a9
        have f7 := (B7.frozen (p := ⟨w.heap.size, k, none⟩) zr9).trans f9
        refine wpAnyH_ready (rs := [10]) (by kernel_rfl) (by simp) ?_
        refine AllReadyH.cons rfl (fun KK hK => ?_) AllReadyH.nil
        go_simp
        have HGn : Hid (OwnI w.heap.size (w7.setCell ⟨w.heap.size, k, none⟩ (.int .i64 (0))) (some ⟨w.heap.size, 0, none⟩) 3 (upF P A (k + 1))) := own_setM (HG9.out.below B7) (fun i _ => HUP.out i)
        have BS : Beside w.heap.size w7 (w7.setCell ⟨w.heap.size, k, none⟩ (.int .i64 (0))) := Beside.setCell _ _ _ _
        have HZn : Hid (OwnI (w.heap.size + 1) (w7.setCell ⟨w.heap.size, k, none⟩ (.int .i64 (0))) (some ⟨w.heap.size + 1, 0, none⟩) 3 (fun _ => 0)) := (HZ9.out.below B7).beside BS (by omega)
        have HUn : Hid (OwnI D (w7.setCell ⟨w.heap.size, k, none⟩ (.int .i64 (0))) (some ⟨b1, 0, none⟩) no (outV no V P ld)) := (HU9.out.below B7).beside BS (by omega)
        have HBn : Hid (Below w.heap.size w (w7.setCell ⟨w.heap.size, k, none⟩ (.int .i64 (0)))) := set_belowM (HB9.out.trans (B7.mono HB9.out.size)) (Nat.le_refl _) (by have := HB9.out.size; have := B7.size; omega)
        obtain ⟨wn, hwn⟩ : ∃ z, z = w7.setCell ⟨w.heap.size, k, none⟩ (.int .i64 (0)) := ⟨_, rfl⟩
        rw [← hwn] at HGn HZn HUn HBn BS ⊢
        have zg7 : g2 < w7.heap.size := Nat.lt_of_lt_of_le zg9 B7.size
        have zq7 : wr.heap.size < w7.heap.size := Nat.lt_of_lt_of_le zq9 B7.size
        refine hK.out _ _ ⟨(BS.cell (p := ⟨g2, o2 + k, none⟩) zg7 (by show g2 ≠ w.heap.size; omega)).trans hHeld.1, (BS.cell (p := ⟨wr.heap.size, 3, none⟩) zq7 (by show wr.heap.size ≠ w.heap.size; omega)).trans hHeld.2⟩ (fun hHeld => ?_)
        clear hK KK
        refine wpAnyH_done (by kernel_rfl) ?_ _
        clear hHeld hwn BS a7 f7 a9 d9 p3 f9 HG9 HZ9 HU9 HB9
        go_wp2
        go_roundw
        case rel => exact ⟨k + 1, by omega, by go_num, by rw [HQ.out], ball_succP HP.out HKK.out, HGn.out, HZn.out, HUn.out, HBn.out⟩
        case measure => first | (simp [intOf]; done) | (simp [intOf]; omega)
end Go.Proofs.Ytdlbniihgppodaa
