/-
What is proved: a board led along scans, as the program does it.
-/
import Derived.Test.YtlbbdifmjdpfiaaBqNz
import Derived.Test.YtlbbdifmjdpfiaaBsIz
import Derived.Test.YtlbbdifmjdpfiaaZdA
import Derived.Deep.RegionHeld3
import Derived.Deep.RegionHeldLaw
import Derived.Deep.DeepCutAuto
namespace Go.Proofs.Ytlbbdifmjdpfiaa
set_option maxRecDepth 40000
open Go.ChangeShapes Go.WideShapes Go.ChangeAt Go.RowKit
set_option linter.unusedVariables false
set_option linter.unusedSimpArgs false

/-- The board and the rows on their way, behind k scans. -/
def BqI (w1 : World) (P bs : Nat) (x : Int) (n : Nat) (V : Nat → Int × Int × Int × Bool × Int) (m : Nat) (Z : Nat → Int × Nat × (Nat → Bool) × Nat × (Nat → Int) × Nat × (Nat → Int × Int)) (k : Nat) (wx : World) : Prop := ∃ (s' : Option Addr) (c' : Nat) (S' : Nat → Prop), Blk wx P [.int .i64 (x + (k : Int)), .slice s' n c'] ∧ w1.heap.size ≤ P ∧ bs ≠ P ∧ LT (fun q => w1.heap.size ≤ q ∧ q ≠ P ∧ ¬ S' q) bs wx m k (bqK x n V Z) (bqU x n V Z) ∧ AlarmR S' wx s' n (bqV x n V Z k) ∧ (∀ q, S' q → q ≠ P ∧ w1.heap.size ≤ q ∧ q < wx.heap.size) ∧ Below w1.heap.size w1 wx
theorem made_sl {a j : Nat} (h : j < a) : (madeCells #[.slice none 0 0] a)[j]? = some (.slice none 0 0) := by
  simp only [madeCells, Array.getElem?_map, Array.getElem?_range, h, if_true, Option.map_some]
  show some ((#[Value.slice none 0 0] : Array Value)[j % 1]!) = _
  rw [Nat.mod_one]; rfl
set_option maxRecDepth 20000 in
set_option maxHeartbeats 16000000 in
theorem implBoardRun_any (x : Int) (s : Option Addr) (n c : Nat) (V : Nat → Int × Int × Int × Bool × Int) (ss : Option Addr) (m cs : Nat) (Z : Nat → Int × Nat × (Nat → Bool) × Nat × (Nat → Int) × Nat × (Nat → Int × Int)) (w : World) (hn : (n : Int) ≤ 1048576) (hm : (m : Int) ≤ 1048576) (hZ : ∀ i, i < m → ((Z i).2.1 : Int) ≤ 1048576 ∧ ((Z i).2.2.2.1 : Int) ≤ 1048576 ∧ ((Z i).2.2.2.2.2.1 : Int) ≤ 1048576) (HR : Hid (RowAlarm w s n V)) (HZ : Hid (RowScs w ss m Z)) :
    Calls Try.prog 12 #[.agg #[.int .i64 x, .slice s n c], .slice ss m cs] w fun e w' => BqPost w x n V m Z e w' := by
  have sto := store_slT
  have HZ2 : Hid (∀ i, i < m → ((Z i).2.1 : Int) ≤ 1048576 ∧ ((Z i).2.2.2.1 : Int) ≤ 1048576 ∧ ((Z i).2.2.2.2.2.1 : Int) ≤ 1048576) := hZ
  clear hZ
  go_enter Try.func12, Try.ntmps12
  go_upto_region 1 with fail
  obtain ⟨wa, hwa⟩ : ∃ wa, wa = (w.alloc (.cells #[.int .i64 x, .slice s n c] 26)).alloc (.cells #[.int .i64 0, .slice none 0 0] 26) := ⟨_, rfl⟩
  rw [← hwa]
  have p0 : wa.cell? ⟨w.heap.size, 0, none⟩ = some (.int .i64 x) := by rw [hwa]; simp [go_sem]
  have p1 : wa.cell? ⟨w.heap.size, 1, none⟩ = some (.slice s n c) := by rw [hwa]; simp [go_sem]
  have r0 : wa.cell? ⟨w.heap.size + 1, 0, none⟩ = some (.int .i64 0) := by rw [hwa]; simp [go_sem]
  have r1 : wa.cell? ⟨w.heap.size + 1, 1, none⟩ = some (.slice none 0 0) := by rw [hwa]; simp [go_sem]
  have fr : ∀ o, wa.frozen? ⟨w.heap.size + 1, o, none⟩ = false := by intro o; rw [hwa]; simp [go_sem]
  have z1 : w.heap.size + 1 < wa.heap.size := by rw [hwa]; simp
  have z0 : w.heap.size < wa.heap.size := by omega
  have B0 : Below w.heap.size w wa := by rw [hwa]; exact (by repeat (first | with_reducible exact Below.refl _ _ | with_reducible refine Below.setCell ?_ (by first | omega | (simp; done) | (simp; omega)) _ | with_reducible refine bDrewN ?_ _ | with_reducible refine Below.drew ?_ | with_reducible refine Below.alloc ?_ (by first | omega | (simp; done) | (simp; omega)) _))
  clear hwa
  go_wp2_with fail
  refine (implBoardOk_any x s n c V _ hn (HR.out.below B0)).mono ?_
  rintro e w1 ⟨rfl, h1⟩
  replace p0 := (h1.cell (p := ⟨w.heap.size, 0, none⟩) z0).trans p0
  replace p1 := (h1.cell (p := ⟨w.heap.size, 1, none⟩) z0).trans p1
  replace r0 := (h1.cell (p := ⟨w.heap.size + 1, 0, none⟩) z1).trans r0
  replace r1 := (h1.cell (p := ⟨w.heap.size + 1, 1, none⟩) z1).trans r1
  replace fr : ∀ o, w1.frozen? ⟨w.heap.size + 1, o, none⟩ = false := fun o => (h1.frozen (p := ⟨w.heap.size + 1, o, none⟩) z1).trans (fr o)
  replace z1 := Nat.lt_of_lt_of_le z1 h1.size
  replace z0 := Nat.lt_of_lt_of_le z0 h1.size
  replace B0 : Below w.heap.size w w1 := B0.trans (h1.mono B0.size)
  clear h1
  cases b0 : boardB x n V
  case false =>
    have HO : Hid (bqB x n V m Z = false) := by show _ = _; unfold bqB; rw [b0]; rfl
    go_wp2
    exact bodyPost_ret (v := .tuple #[.slice none 0 0, .agg #[.int .i64 0, .slice none 0 0], .bool false]) (by simp [results, Try.results12, go_sem, r0, r1]) rfl (bq_no HO.out (by repeat (first | with_reducible exact Below.refl _ _ | with_reducible exact B0 | with_reducible refine Below.setCell ?_ (by first | omega | (simp; done) | (simp; omega)) _ | with_reducible refine bDrewN ?_ _ | with_reducible refine Below.drew ?_ | with_reducible refine Below.alloc ?_ (by first | omega | (simp; done) | (simp; omega)) _)))
  by_cases m3 : 300 < m
  case pos =>
    have b1 : (300 : Int) < (m : Int) := by omega
    have HO : Hid (bqB x n V m Z = false) := by show _ = _; unfold bqB; rw [decide_eq_false (by omega : ¬ m ≤ 300)]; simp
    go_wp2
    exact bodyPost_ret (v := .tuple #[.slice none 0 0, .agg #[.int .i64 0, .slice none 0 0], .bool false]) (by simp [results, Try.results12, go_sem, r0, r1]) rfl (bq_no HO.out (by repeat (first | with_reducible exact Below.refl _ _ | with_reducible exact B0 | with_reducible refine Below.setCell ?_ (by first | omega | (simp; done) | (simp; omega)) _ | with_reducible refine bDrewN ?_ _ | with_reducible refine Below.drew ?_ | with_reducible refine Below.alloc ?_ (by first | omega | (simp; done) | (simp; omega)) _)))
  have b1 : decide ((300 : Int) < (m : Int)) = false := decide_eq_false (by omega)
  have HF : Hid (∀ q : Bool, bqT x n V Z m = q → bqB x n V m Z = q) := fun q e => by unfold bqB; rw [b0, decide_eq_true (by omega : m ≤ 300), e]; simp
  obtain ⟨⟨x0, x1⟩, n60, -⟩ := board_yes b0
  have hn2 : (n : Int) ≤ 60 := by omega
  have hm3 : (m : Int) ≤ 300 := by omega
  have hml := make_ll m (by omega)
  clear b0 m3 n60
  go_upto_region 3 with fail
  go_cut [7, 8] (fun v u wx => ∃ P bs, v = .pointer (some ⟨P, 0, none⟩) ∧ u = .slice (some ⟨bs, 0, none⟩) m m ∧ Hid (BqI w1 P bs x n V m Z 0 wx))
  case first =>
    refine wp_region_held_drew (S := fun w' => w'.cell? ⟨w.heap.size, 0, none⟩ = some (.int .i64 x) ∧ w'.cell? ⟨w.heap.size, 1, none⟩ = some (.slice s n c)) (by kernel_rfl) ?_ (fun hHeld => ?_)
    · exact ⟨by simpa [go_sem] using p0, by simpa [go_sem] using p1⟩
    obtain ⟨v0, hv0⟩ : ∃ z, z = w1.drew := ⟨_, rfl⟩
    try rw [← hv0] at hHeld
    rw [← hv0]
    have bv0 : Below w1.heap.size w1 v0 := by rw [hv0]; exact Below.drew (Below.refl _ _)
    clear hv0
    have HB9 : Hid (Below w1.heap.size w1 v0) := bv0
    clear bv0
    refine wpAnyH_take (i := 0) (v := .agg #[.int .i64 x, .slice s n c]) rfl (by kernel_rfl) (by kernel_rfl) (by kernel_rfl) (fun _ _ _ h => h) (Or.inl ⟨by kernel_rfl, ?_⟩) hHeld ?_
    · intro w' hSw
      obtain ⟨s0_, s1_⟩ := hSw
      first | (go_simp; done) | (go_simp; with_reducible rfl) | (go_simp; rw [IntKind.wrap_i64]; omega) | (go_simp; omega)
    simp only [Act.put, List.setIfInBounds_toArray, List.set_cons_zero, List.set_cons_succ]
    refine wpAnyH_take (i := 2) (v := .slice ss m cs) rfl (by kernel_rfl) (by kernel_rfl) (by kernel_rfl) (fun _ _ _ h => h) (Or.inl ⟨by kernel_rfl, ?_⟩) hHeld ?_
    · intro w' hSw
      obtain ⟨s0_, s1_⟩ := hSw
      first | (go_simp; done) | (go_simp; with_reducible rfl) | (go_simp; rw [IntKind.wrap_i64]; omega) | (go_simp; omega)
    simp only [Act.put, List.setIfInBounds_toArray, List.set_cons_zero, List.set_cons_succ]
    refine wpAnyH_take (i := 3) (v := .int .i64 (m : Int)) rfl (by kernel_rfl) (by kernel_rfl) (by kernel_rfl) (fun _ _ _ h => h) (Or.inl ⟨by kernel_rfl, ?_⟩) hHeld ?_
    · intro w' hSw
      obtain ⟨s0_, s1_⟩ := hSw
      first | (go_simp; done) | (go_simp; with_reducible rfl) | (go_simp; rw [IntKind.wrap_i64]; omega) | (go_simp; omega)
    simp only [Act.put, List.setIfInBounds_toArray, List.set_cons_zero, List.set_cons_succ]
    refine wpAnyH_ready (rs := [1, 4, 5]) (by kernel_rfl) (by simp) ?_
    refine (AllReadyH.cons rfl (fun KK hK => ?_) (AllReadyH.cons rfl (fun KK hK => ?_) (AllReadyH.cons rfl (fun KK hK => ?_) AllReadyH.nil)))
    · go_simp
      go_wp2_with (first | (go_at_call 47; refine (copied_any x s n c V _ hn2 (HR.out.below (B0.trans (HB9.out.mono B0.size)))).mono ?_; rintro e v0_1 ⟨ba, rfl, hba, hA, b9⟩))
      have HA : Hid (AlM ba v0_1 n V) := hA
      have la0 : w1.heap.size ≤ ba := Nat.le_trans HB9.out.size hba
      replace HB9 : Hid (Below w1.heap.size w1 v0_1) := HB9.out.trans (b9.mono HB9.out.size)
      clear b9 hA hba
      refine hK.out _ _ (⟨(HB9.out.cell (p := ⟨w.heap.size, 0, none⟩) z0).trans p0, (HB9.out.cell (p := ⟨w.heap.size, 1, none⟩) z0).trans p1⟩) (fun hHeld => ?_)
      clear hK KK
      refine wpAnyH_ready (rs := [4, 5]) (by kernel_rfl) (by simp) ?_
      refine (AllReadyH.cons rfl (fun KK hK => ?_) (AllReadyH.cons rfl (fun KK hK => ?_) AllReadyH.nil))
      · have la_ : ba < v0_1.heap.size := HA.out.1
        go_simp
        obtain ⟨v0_2, hV_⟩ : ∃ z, z = v0_1.alloc (.cells (madeCells #[.slice none 0 0] m) 33) := ⟨_, rfl⟩
        obtain ⟨bs, hbs⟩ : ∃ z, z = v0_1.heap.size := ⟨_, rfl⟩
        rw [← hV_, ← hbs]
        have b9 : Below v0_1.heap.size v0_1 v0_2 := by rw [hV_]; exact below0 _ _
        have HL : Hid (Blk v0_2 bs (madeCells #[.slice none 0 0] m).toList) := by show Blk _ _ _; rw [hV_, hbs]; exact Blk.new _ _ _
        have ll0 : w1.heap.size ≤ bs := by rw [hbs]; exact HB9.out.size
        have d14 : ba ≠ bs := by omega
        replace HA : Hid (AlM ba v0_2 n V) := HA.out.below b9
        replace HB9 : Hid (Below w1.heap.size w1 v0_2) := HB9.out.trans (b9.mono HB9.out.size)
        clear b9 hV_ hbs
        clear la_
        refine hK.out _ _ (⟨(HB9.out.cell (p := ⟨w.heap.size, 0, none⟩) z0).trans p0, (HB9.out.cell (p := ⟨w.heap.size, 1, none⟩) z0).trans p1⟩) (fun hHeld => ?_)
        clear hK KK
        refine wpAnyH_ready (rs := [5]) (by kernel_rfl) (by simp) ?_
        refine (AllReadyH.cons rfl (fun KK hK => ?_) AllReadyH.nil)
        have la_ : ba < v0_2.heap.size := HA.out.1
        have ll_ : bs < v0_2.heap.size := HL.out.1
        go_simp
        obtain ⟨v0_3, hV_⟩ : ∃ z, z = v0_2.alloc (.cells #[.int .i64 0, .slice none 0 0] 26) := ⟨_, rfl⟩
        obtain ⟨P, hP⟩ : ∃ z, z = v0_2.heap.size := ⟨_, rfl⟩
        rw [← hV_, ← hP]
        have b9 : Below v0_2.heap.size v0_2 v0_3 := by rw [hV_]; exact below0 _ _
        have HP : Hid (Blk v0_3 P [.int .i64 0, .slice none 0 0]) := by show Blk _ _ _; rw [hV_, hP]; exact Blk.new _ #[.int .i64 0, .slice none 0 0] _
        have lp0 : w1.heap.size ≤ P := by rw [hP]; exact HB9.out.size
        have d15 : ba ≠ P := by omega
        have d45 : bs ≠ P := by omega
        replace HA : Hid (AlM ba v0_3 n V) := HA.out.below b9
        replace HL : Hid (Blk v0_3 bs (madeCells #[.slice none 0 0] m).toList) := HL.out.below b9
        replace HB9 : Hid (Below w1.heap.size w1 v0_3) := HB9.out.trans (b9.mono HB9.out.size)
        clear b9 hV_ hP
        clear la_ ll_
        refine hK.out _ _ (⟨(HB9.out.cell (p := ⟨w.heap.size, 0, none⟩) z0).trans p0, (HB9.out.cell (p := ⟨w.heap.size, 1, none⟩) z0).trans p1⟩) (fun hHeld => ?_)
        clear hK KK
        refine wpAnyH_ready (rs := [6]) (by kernel_rfl) (by simp) ?_
        refine (AllReadyH.cons rfl (fun KK hK => ?_) AllReadyH.nil)
        have q0_ : v0_3.cell? ⟨P, 0, none⟩ = some (.int .i64 0) := HP.out.2.2 0 _ rfl
        have q1_ : v0_3.cell? ⟨P, 1, none⟩ = some (.slice none 0 0) := HP.out.2.2 1 _ rfl
        have qf_ : ∀ o, v0_3.frozen? ⟨P, o, none⟩ = false := HP.out.2.1
        have lp_ : P < v0_3.heap.size := HP.out.1
        go_simp
        obtain ⟨v0_4, hV_⟩ : ∃ z, z = (v0_3.setCell ⟨P, 0, none⟩ (.int .i64 x)).setCell ⟨P, 1, none⟩ (.slice (some ⟨ba, 0, none⟩) n n) := ⟨_, rfl⟩
        rw [← hV_]
        have bs9 : Beside P v0_3 v0_4 := by rw [hV_]; exact (Beside.setCell _ _ _ _).trans (Beside.setCell _ _ _ _)
        replace HP : Hid (Blk v0_4 P [.int .i64 x, .slice (some ⟨ba, 0, none⟩) n n]) := by show Blk _ _ _; rw [hV_]; exact (HP.out.set 0 (.int .i64 x)).set 1 (.slice (some ⟨ba, 0, none⟩) n n)
        replace HA : Hid (AlM ba v0_4 n V) := HA.out.beside bs9 d15
        replace HL : Hid (Blk v0_4 bs (madeCells #[.slice none 0 0] m).toList) := HL.out.beside bs9 d45
        replace HB9 : Hid (Below w1.heap.size w1 v0_4) := HB9.out.trans (bs9.below lp0 HB9.out.size)
        clear hV_ bs9 q0_ q1_ qf_ lp_
        refine hK.out _ _ (⟨(HB9.out.cell (p := ⟨w.heap.size, 0, none⟩) z0).trans p0, (HB9.out.cell (p := ⟨w.heap.size, 1, none⟩) z0).trans p1⟩) (fun hHeld => ?_)
        clear hK KK
        refine wpAnyH_ready (rs := [7]) (by kernel_rfl) (by simp) ?_
        refine AllReadyH.cons rfl (fun KK hK => ?_) AllReadyH.nil
        go_simp
        refine hK.out _ _ hHeld (fun hHeld => ?_)
        clear hK KK
        refine wpAnyH_done (by kernel_rfl) ?_ _
        clear hHeld
        go_wp2_with fail
        go_meet
        refine ⟨P, bs, rfl, rfl, some ⟨ba, 0, none⟩, n, fun q => q = ba, ?_, lp0, d45, ?_, ⟨HA.out.own.mono (Nat.zero_le _), fun _ b' e => by cases e; rfl⟩, fun q hq => by subst hq; exact ⟨d15, la0, HA.out.1⟩, HB9.out⟩
        · have := HP.out; simpa using this
        · refine LT.start (w := w1) ⟨ll0, d45, fun e => d14 e.symm⟩ HL.out.1 HL.out.2.1 (fun i hi => HL.out.2.2 i _ ?_)
          have hm_ := made_sl hi
          simpa using hm_
      · have la_ : ba < v0_1.heap.size := HA.out.1
        go_simp
        obtain ⟨v0_5, hV_⟩ : ∃ z, z = v0_1.alloc (.cells #[.int .i64 0, .slice none 0 0] 26) := ⟨_, rfl⟩
        obtain ⟨P, hP⟩ : ∃ z, z = v0_1.heap.size := ⟨_, rfl⟩
        rw [← hV_, ← hP]
        have b9 : Below v0_1.heap.size v0_1 v0_5 := by rw [hV_]; exact below0 _ _
        have HP : Hid (Blk v0_5 P [.int .i64 0, .slice none 0 0]) := by show Blk _ _ _; rw [hV_, hP]; exact Blk.new _ #[.int .i64 0, .slice none 0 0] _
        have lp0 : w1.heap.size ≤ P := by rw [hP]; exact HB9.out.size
        have d15 : ba ≠ P := by omega
        replace HA : Hid (AlM ba v0_5 n V) := HA.out.below b9
        replace HB9 : Hid (Below w1.heap.size w1 v0_5) := HB9.out.trans (b9.mono HB9.out.size)
        clear b9 hV_ hP
        clear la_
        refine hK.out _ _ (⟨(HB9.out.cell (p := ⟨w.heap.size, 0, none⟩) z0).trans p0, (HB9.out.cell (p := ⟨w.heap.size, 1, none⟩) z0).trans p1⟩) (fun hHeld => ?_)
        clear hK KK
        refine wpAnyH_ready (rs := [4, 6]) (by kernel_rfl) (by simp) ?_
        refine (AllReadyH.cons rfl (fun KK hK => ?_) (AllReadyH.cons rfl (fun KK hK => ?_) AllReadyH.nil))
        · have la_ : ba < v0_5.heap.size := HA.out.1
          have lp_ : P < v0_5.heap.size := HP.out.1
          go_simp
          obtain ⟨v0_6, hV_⟩ : ∃ z, z = v0_5.alloc (.cells (madeCells #[.slice none 0 0] m) 33) := ⟨_, rfl⟩
          obtain ⟨bs, hbs⟩ : ∃ z, z = v0_5.heap.size := ⟨_, rfl⟩
          rw [← hV_, ← hbs]
          have b9 : Below v0_5.heap.size v0_5 v0_6 := by rw [hV_]; exact below0 _ _
          have HL : Hid (Blk v0_6 bs (madeCells #[.slice none 0 0] m).toList) := by show Blk _ _ _; rw [hV_, hbs]; exact Blk.new _ _ _
          have ll0 : w1.heap.size ≤ bs := by rw [hbs]; exact HB9.out.size
          have d14 : ba ≠ bs := by omega
          have d45 : bs ≠ P := by omega
          replace HA : Hid (AlM ba v0_6 n V) := HA.out.below b9
          replace HP : Hid (Blk v0_6 P [.int .i64 0, .slice none 0 0]) := HP.out.below b9
          replace HB9 : Hid (Below w1.heap.size w1 v0_6) := HB9.out.trans (b9.mono HB9.out.size)
          clear b9 hV_ hbs
          clear la_ lp_
          refine hK.out _ _ (⟨(HB9.out.cell (p := ⟨w.heap.size, 0, none⟩) z0).trans p0, (HB9.out.cell (p := ⟨w.heap.size, 1, none⟩) z0).trans p1⟩) (fun hHeld => ?_)
          clear hK KK
          refine wpAnyH_ready (rs := [6]) (by kernel_rfl) (by simp) ?_
          refine (AllReadyH.cons rfl (fun KK hK => ?_) AllReadyH.nil)
          have q0_ : v0_6.cell? ⟨P, 0, none⟩ = some (.int .i64 0) := HP.out.2.2 0 _ rfl
          have q1_ : v0_6.cell? ⟨P, 1, none⟩ = some (.slice none 0 0) := HP.out.2.2 1 _ rfl
          have qf_ : ∀ o, v0_6.frozen? ⟨P, o, none⟩ = false := HP.out.2.1
          have lp_ : P < v0_6.heap.size := HP.out.1
          go_simp
          obtain ⟨v0_7, hV_⟩ : ∃ z, z = (v0_6.setCell ⟨P, 0, none⟩ (.int .i64 x)).setCell ⟨P, 1, none⟩ (.slice (some ⟨ba, 0, none⟩) n n) := ⟨_, rfl⟩
          rw [← hV_]
          have bs9 : Beside P v0_6 v0_7 := by rw [hV_]; exact (Beside.setCell _ _ _ _).trans (Beside.setCell _ _ _ _)
          replace HP : Hid (Blk v0_7 P [.int .i64 x, .slice (some ⟨ba, 0, none⟩) n n]) := by show Blk _ _ _; rw [hV_]; exact (HP.out.set 0 (.int .i64 x)).set 1 (.slice (some ⟨ba, 0, none⟩) n n)
          replace HA : Hid (AlM ba v0_7 n V) := HA.out.beside bs9 d15
          replace HL : Hid (Blk v0_7 bs (madeCells #[.slice none 0 0] m).toList) := HL.out.beside bs9 d45
          replace HB9 : Hid (Below w1.heap.size w1 v0_7) := HB9.out.trans (bs9.below lp0 HB9.out.size)
          clear hV_ bs9 q0_ q1_ qf_ lp_
          refine hK.out _ _ (⟨(HB9.out.cell (p := ⟨w.heap.size, 0, none⟩) z0).trans p0, (HB9.out.cell (p := ⟨w.heap.size, 1, none⟩) z0).trans p1⟩) (fun hHeld => ?_)
          clear hK KK
          refine wpAnyH_ready (rs := [7]) (by kernel_rfl) (by simp) ?_
          refine AllReadyH.cons rfl (fun KK hK => ?_) AllReadyH.nil
          go_simp
          refine hK.out _ _ hHeld (fun hHeld => ?_)
          clear hK KK
          refine wpAnyH_done (by kernel_rfl) ?_ _
          clear hHeld
          go_wp2_with fail
          go_meet
          refine ⟨P, bs, rfl, rfl, some ⟨ba, 0, none⟩, n, fun q => q = ba, ?_, lp0, d45, ?_, ⟨HA.out.own.mono (Nat.zero_le _), fun _ b' e => by cases e; rfl⟩, fun q hq => by subst hq; exact ⟨d15, la0, HA.out.1⟩, HB9.out⟩
          · have := HP.out; simpa using this
          · refine LT.start (w := w1) ⟨ll0, d45, fun e => d14 e.symm⟩ HL.out.1 HL.out.2.1 (fun i hi => HL.out.2.2 i _ ?_)
            have hm_ := made_sl hi
            simpa using hm_
        · have q0_ : v0_5.cell? ⟨P, 0, none⟩ = some (.int .i64 0) := HP.out.2.2 0 _ rfl
          have q1_ : v0_5.cell? ⟨P, 1, none⟩ = some (.slice none 0 0) := HP.out.2.2 1 _ rfl
          have qf_ : ∀ o, v0_5.frozen? ⟨P, o, none⟩ = false := HP.out.2.1
          have lp_ : P < v0_5.heap.size := HP.out.1
          go_simp
          obtain ⟨v0_8, hV_⟩ : ∃ z, z = (v0_5.setCell ⟨P, 0, none⟩ (.int .i64 x)).setCell ⟨P, 1, none⟩ (.slice (some ⟨ba, 0, none⟩) n n) := ⟨_, rfl⟩
          rw [← hV_]
          have bs9 : Beside P v0_5 v0_8 := by rw [hV_]; exact (Beside.setCell _ _ _ _).trans (Beside.setCell _ _ _ _)
          replace HP : Hid (Blk v0_8 P [.int .i64 x, .slice (some ⟨ba, 0, none⟩) n n]) := by show Blk _ _ _; rw [hV_]; exact (HP.out.set 0 (.int .i64 x)).set 1 (.slice (some ⟨ba, 0, none⟩) n n)
          replace HA : Hid (AlM ba v0_8 n V) := HA.out.beside bs9 d15
          replace HB9 : Hid (Below w1.heap.size w1 v0_8) := HB9.out.trans (bs9.below lp0 HB9.out.size)
          clear hV_ bs9 q0_ q1_ qf_ lp_
          refine hK.out _ _ (⟨(HB9.out.cell (p := ⟨w.heap.size, 0, none⟩) z0).trans p0, (HB9.out.cell (p := ⟨w.heap.size, 1, none⟩) z0).trans p1⟩) (fun hHeld => ?_)
          clear hK KK
          refine wpAnyH_ready (rs := [4]) (by kernel_rfl) (by simp) ?_
          refine (AllReadyH.cons rfl (fun KK hK => ?_) AllReadyH.nil)
          have la_ : ba < v0_8.heap.size := HA.out.1
          have lp_ : P < v0_8.heap.size := HP.out.1
          go_simp
          obtain ⟨v0_9, hV_⟩ : ∃ z, z = v0_8.alloc (.cells (madeCells #[.slice none 0 0] m) 33) := ⟨_, rfl⟩
          obtain ⟨bs, hbs⟩ : ∃ z, z = v0_8.heap.size := ⟨_, rfl⟩
          rw [← hV_, ← hbs]
          have b9 : Below v0_8.heap.size v0_8 v0_9 := by rw [hV_]; exact below0 _ _
          have HL : Hid (Blk v0_9 bs (madeCells #[.slice none 0 0] m).toList) := by show Blk _ _ _; rw [hV_, hbs]; exact Blk.new _ _ _
          have ll0 : w1.heap.size ≤ bs := by rw [hbs]; exact HB9.out.size
          have d14 : ba ≠ bs := by omega
          have d45 : bs ≠ P := by omega
          replace HA : Hid (AlM ba v0_9 n V) := HA.out.below b9
          replace HP : Hid (Blk v0_9 P [.int .i64 x, .slice (some ⟨ba, 0, none⟩) n n]) := HP.out.below b9
          replace HB9 : Hid (Below w1.heap.size w1 v0_9) := HB9.out.trans (b9.mono HB9.out.size)
          clear b9 hV_ hbs
          clear la_ lp_
          refine hK.out _ _ (⟨(HB9.out.cell (p := ⟨w.heap.size, 0, none⟩) z0).trans p0, (HB9.out.cell (p := ⟨w.heap.size, 1, none⟩) z0).trans p1⟩) (fun hHeld => ?_)
          clear hK KK
          refine wpAnyH_ready (rs := [7]) (by kernel_rfl) (by simp) ?_
          refine AllReadyH.cons rfl (fun KK hK => ?_) AllReadyH.nil
          go_simp
          refine hK.out _ _ hHeld (fun hHeld => ?_)
          clear hK KK
          refine wpAnyH_done (by kernel_rfl) ?_ _
          clear hHeld
          go_wp2_with fail
          go_meet
          refine ⟨P, bs, rfl, rfl, some ⟨ba, 0, none⟩, n, fun q => q = ba, ?_, lp0, d45, ?_, ⟨HA.out.own.mono (Nat.zero_le _), fun _ b' e => by cases e; rfl⟩, fun q hq => by subst hq; exact ⟨d15, la0, HA.out.1⟩, HB9.out⟩
          · have := HP.out; simpa using this
          · refine LT.start (w := w1) ⟨ll0, d45, fun e => d14 e.symm⟩ HL.out.1 HL.out.2.1 (fun i hi => HL.out.2.2 i _ ?_)
            have hm_ := made_sl hi
            simpa using hm_
    · go_simp
      obtain ⟨v0_10, hV_⟩ : ∃ z, z = v0.alloc (.cells (madeCells #[.slice none 0 0] m) 33) := ⟨_, rfl⟩
      obtain ⟨bs, hbs⟩ : ∃ z, z = v0.heap.size := ⟨_, rfl⟩
      rw [← hV_, ← hbs]
      have b9 : Below v0.heap.size v0 v0_10 := by rw [hV_]; exact below0 _ _
      have HL : Hid (Blk v0_10 bs (madeCells #[.slice none 0 0] m).toList) := by show Blk _ _ _; rw [hV_, hbs]; exact Blk.new _ _ _
      have ll0 : w1.heap.size ≤ bs := by rw [hbs]; exact HB9.out.size
      replace HB9 : Hid (Below w1.heap.size w1 v0_10) := HB9.out.trans (b9.mono HB9.out.size)
      clear b9 hV_ hbs
      refine hK.out _ _ (⟨(HB9.out.cell (p := ⟨w.heap.size, 0, none⟩) z0).trans p0, (HB9.out.cell (p := ⟨w.heap.size, 1, none⟩) z0).trans p1⟩) (fun hHeld => ?_)
      clear hK KK
      refine wpAnyH_ready (rs := [1, 5]) (by kernel_rfl) (by simp) ?_
      refine (AllReadyH.cons rfl (fun KK hK => ?_) (AllReadyH.cons rfl (fun KK hK => ?_) AllReadyH.nil))
      · have ll_ : bs < v0_10.heap.size := HL.out.1
        go_simp
        go_wp2_with (first | (go_at_call 47; refine (copied_any x s n c V _ hn2 (HR.out.below (B0.trans (HB9.out.mono B0.size)))).mono ?_; rintro e v0_11 ⟨ba, rfl, hba, hA, b9⟩))
        have HA : Hid (AlM ba v0_11 n V) := hA
        have la0 : w1.heap.size ≤ ba := Nat.le_trans HB9.out.size hba
        have d14 : ba ≠ bs := by omega
        replace HL : Hid (Blk v0_11 bs (madeCells #[.slice none 0 0] m).toList) := HL.out.below b9
        replace HB9 : Hid (Below w1.heap.size w1 v0_11) := HB9.out.trans (b9.mono HB9.out.size)
        clear b9 hA hba
        clear ll_
        refine hK.out _ _ (⟨(HB9.out.cell (p := ⟨w.heap.size, 0, none⟩) z0).trans p0, (HB9.out.cell (p := ⟨w.heap.size, 1, none⟩) z0).trans p1⟩) (fun hHeld => ?_)
        clear hK KK
        refine wpAnyH_ready (rs := [5]) (by kernel_rfl) (by simp) ?_
        refine (AllReadyH.cons rfl (fun KK hK => ?_) AllReadyH.nil)
        have la_ : ba < v0_11.heap.size := HA.out.1
        have ll_ : bs < v0_11.heap.size := HL.out.1
        go_simp
        obtain ⟨v0_12, hV_⟩ : ∃ z, z = v0_11.alloc (.cells #[.int .i64 0, .slice none 0 0] 26) := ⟨_, rfl⟩
        obtain ⟨P, hP⟩ : ∃ z, z = v0_11.heap.size := ⟨_, rfl⟩
        rw [← hV_, ← hP]
        have b9 : Below v0_11.heap.size v0_11 v0_12 := by rw [hV_]; exact below0 _ _
        have HP : Hid (Blk v0_12 P [.int .i64 0, .slice none 0 0]) := by show Blk _ _ _; rw [hV_, hP]; exact Blk.new _ #[.int .i64 0, .slice none 0 0] _
        have lp0 : w1.heap.size ≤ P := by rw [hP]; exact HB9.out.size
        have d15 : ba ≠ P := by omega
        have d45 : bs ≠ P := by omega
        replace HA : Hid (AlM ba v0_12 n V) := HA.out.below b9
        replace HL : Hid (Blk v0_12 bs (madeCells #[.slice none 0 0] m).toList) := HL.out.below b9
        replace HB9 : Hid (Below w1.heap.size w1 v0_12) := HB9.out.trans (b9.mono HB9.out.size)
        clear b9 hV_ hP
        clear la_ ll_
        refine hK.out _ _ (⟨(HB9.out.cell (p := ⟨w.heap.size, 0, none⟩) z0).trans p0, (HB9.out.cell (p := ⟨w.heap.size, 1, none⟩) z0).trans p1⟩) (fun hHeld => ?_)
        clear hK KK
        refine wpAnyH_ready (rs := [6]) (by kernel_rfl) (by simp) ?_
        refine (AllReadyH.cons rfl (fun KK hK => ?_) AllReadyH.nil)
        have q0_ : v0_12.cell? ⟨P, 0, none⟩ = some (.int .i64 0) := HP.out.2.2 0 _ rfl
        have q1_ : v0_12.cell? ⟨P, 1, none⟩ = some (.slice none 0 0) := HP.out.2.2 1 _ rfl
        have qf_ : ∀ o, v0_12.frozen? ⟨P, o, none⟩ = false := HP.out.2.1
        have lp_ : P < v0_12.heap.size := HP.out.1
        go_simp
        obtain ⟨v0_13, hV_⟩ : ∃ z, z = (v0_12.setCell ⟨P, 0, none⟩ (.int .i64 x)).setCell ⟨P, 1, none⟩ (.slice (some ⟨ba, 0, none⟩) n n) := ⟨_, rfl⟩
        rw [← hV_]
        have bs9 : Beside P v0_12 v0_13 := by rw [hV_]; exact (Beside.setCell _ _ _ _).trans (Beside.setCell _ _ _ _)
        replace HP : Hid (Blk v0_13 P [.int .i64 x, .slice (some ⟨ba, 0, none⟩) n n]) := by show Blk _ _ _; rw [hV_]; exact (HP.out.set 0 (.int .i64 x)).set 1 (.slice (some ⟨ba, 0, none⟩) n n)
        replace HA : Hid (AlM ba v0_13 n V) := HA.out.beside bs9 d15
        replace HL : Hid (Blk v0_13 bs (madeCells #[.slice none 0 0] m).toList) := HL.out.beside bs9 d45
        replace HB9 : Hid (Below w1.heap.size w1 v0_13) := HB9.out.trans (bs9.below lp0 HB9.out.size)
        clear hV_ bs9 q0_ q1_ qf_ lp_
        refine hK.out _ _ (⟨(HB9.out.cell (p := ⟨w.heap.size, 0, none⟩) z0).trans p0, (HB9.out.cell (p := ⟨w.heap.size, 1, none⟩) z0).trans p1⟩) (fun hHeld => ?_)
        clear hK KK
        refine wpAnyH_ready (rs := [7]) (by kernel_rfl) (by simp) ?_
        refine AllReadyH.cons rfl (fun KK hK => ?_) AllReadyH.nil
        go_simp
        refine hK.out _ _ hHeld (fun hHeld => ?_)
        clear hK KK
        refine wpAnyH_done (by kernel_rfl) ?_ _
        clear hHeld
        go_wp2_with fail
        go_meet
        refine ⟨P, bs, rfl, rfl, some ⟨ba, 0, none⟩, n, fun q => q = ba, ?_, lp0, d45, ?_, ⟨HA.out.own.mono (Nat.zero_le _), fun _ b' e => by cases e; rfl⟩, fun q hq => by subst hq; exact ⟨d15, la0, HA.out.1⟩, HB9.out⟩
        · have := HP.out; simpa using this
        · refine LT.start (w := w1) ⟨ll0, d45, fun e => d14 e.symm⟩ HL.out.1 HL.out.2.1 (fun i hi => HL.out.2.2 i _ ?_)
          have hm_ := made_sl hi
          simpa using hm_
      · have ll_ : bs < v0_10.heap.size := HL.out.1
        go_simp
        obtain ⟨v0_14, hV_⟩ : ∃ z, z = v0_10.alloc (.cells #[.int .i64 0, .slice none 0 0] 26) := ⟨_, rfl⟩
        obtain ⟨P, hP⟩ : ∃ z, z = v0_10.heap.size := ⟨_, rfl⟩
        rw [← hV_, ← hP]
        have b9 : Below v0_10.heap.size v0_10 v0_14 := by rw [hV_]; exact below0 _ _
        have HP : Hid (Blk v0_14 P [.int .i64 0, .slice none 0 0]) := by show Blk _ _ _; rw [hV_, hP]; exact Blk.new _ #[.int .i64 0, .slice none 0 0] _
        have lp0 : w1.heap.size ≤ P := by rw [hP]; exact HB9.out.size
        have d45 : bs ≠ P := by omega
        replace HL : Hid (Blk v0_14 bs (madeCells #[.slice none 0 0] m).toList) := HL.out.below b9
        replace HB9 : Hid (Below w1.heap.size w1 v0_14) := HB9.out.trans (b9.mono HB9.out.size)
        clear b9 hV_ hP
        clear ll_
        refine hK.out _ _ (⟨(HB9.out.cell (p := ⟨w.heap.size, 0, none⟩) z0).trans p0, (HB9.out.cell (p := ⟨w.heap.size, 1, none⟩) z0).trans p1⟩) (fun hHeld => ?_)
        clear hK KK
        refine wpAnyH_ready (rs := [1]) (by kernel_rfl) (by simp) ?_
        refine (AllReadyH.cons rfl (fun KK hK => ?_) AllReadyH.nil)
        have ll_ : bs < v0_14.heap.size := HL.out.1
        have lp_ : P < v0_14.heap.size := HP.out.1
        go_simp
        go_wp2_with (first | (go_at_call 47; refine (copied_any x s n c V _ hn2 (HR.out.below (B0.trans (HB9.out.mono B0.size)))).mono ?_; rintro e v0_15 ⟨ba, rfl, hba, hA, b9⟩))
        have HA : Hid (AlM ba v0_15 n V) := hA
        have la0 : w1.heap.size ≤ ba := Nat.le_trans HB9.out.size hba
        have d14 : ba ≠ bs := by omega
        have d15 : ba ≠ P := by omega
        replace HL : Hid (Blk v0_15 bs (madeCells #[.slice none 0 0] m).toList) := HL.out.below b9
        replace HP : Hid (Blk v0_15 P [.int .i64 0, .slice none 0 0]) := HP.out.below b9
        replace HB9 : Hid (Below w1.heap.size w1 v0_15) := HB9.out.trans (b9.mono HB9.out.size)
        clear b9 hA hba
        clear ll_ lp_
        refine hK.out _ _ (⟨(HB9.out.cell (p := ⟨w.heap.size, 0, none⟩) z0).trans p0, (HB9.out.cell (p := ⟨w.heap.size, 1, none⟩) z0).trans p1⟩) (fun hHeld => ?_)
        clear hK KK
        refine wpAnyH_ready (rs := [6]) (by kernel_rfl) (by simp) ?_
        refine (AllReadyH.cons rfl (fun KK hK => ?_) AllReadyH.nil)
        have q0_ : v0_15.cell? ⟨P, 0, none⟩ = some (.int .i64 0) := HP.out.2.2 0 _ rfl
        have q1_ : v0_15.cell? ⟨P, 1, none⟩ = some (.slice none 0 0) := HP.out.2.2 1 _ rfl
        have qf_ : ∀ o, v0_15.frozen? ⟨P, o, none⟩ = false := HP.out.2.1
        have lp_ : P < v0_15.heap.size := HP.out.1
        go_simp
        obtain ⟨v0_16, hV_⟩ : ∃ z, z = (v0_15.setCell ⟨P, 0, none⟩ (.int .i64 x)).setCell ⟨P, 1, none⟩ (.slice (some ⟨ba, 0, none⟩) n n) := ⟨_, rfl⟩
        rw [← hV_]
        have bs9 : Beside P v0_15 v0_16 := by rw [hV_]; exact (Beside.setCell _ _ _ _).trans (Beside.setCell _ _ _ _)
        replace HP : Hid (Blk v0_16 P [.int .i64 x, .slice (some ⟨ba, 0, none⟩) n n]) := by show Blk _ _ _; rw [hV_]; exact (HP.out.set 0 (.int .i64 x)).set 1 (.slice (some ⟨ba, 0, none⟩) n n)
        replace HA : Hid (AlM ba v0_16 n V) := HA.out.beside bs9 d15
        replace HL : Hid (Blk v0_16 bs (madeCells #[.slice none 0 0] m).toList) := HL.out.beside bs9 d45
        replace HB9 : Hid (Below w1.heap.size w1 v0_16) := HB9.out.trans (bs9.below lp0 HB9.out.size)
        clear hV_ bs9 q0_ q1_ qf_ lp_
        refine hK.out _ _ (⟨(HB9.out.cell (p := ⟨w.heap.size, 0, none⟩) z0).trans p0, (HB9.out.cell (p := ⟨w.heap.size, 1, none⟩) z0).trans p1⟩) (fun hHeld => ?_)
        clear hK KK
        refine wpAnyH_ready (rs := [7]) (by kernel_rfl) (by simp) ?_
        refine AllReadyH.cons rfl (fun KK hK => ?_) AllReadyH.nil
        go_simp
        refine hK.out _ _ hHeld (fun hHeld => ?_)
        clear hK KK
        refine wpAnyH_done (by kernel_rfl) ?_ _
        clear hHeld
        go_wp2_with fail
        go_meet
        refine ⟨P, bs, rfl, rfl, some ⟨ba, 0, none⟩, n, fun q => q = ba, ?_, lp0, d45, ?_, ⟨HA.out.own.mono (Nat.zero_le _), fun _ b' e => by cases e; rfl⟩, fun q hq => by subst hq; exact ⟨d15, la0, HA.out.1⟩, HB9.out⟩
        · have := HP.out; simpa using this
        · refine LT.start (w := w1) ⟨ll0, d45, fun e => d14 e.symm⟩ HL.out.1 HL.out.2.1 (fun i hi => HL.out.2.2 i _ ?_)
          have hm_ := made_sl hi
          simpa using hm_
    · go_simp
      obtain ⟨v0_17, hV_⟩ : ∃ z, z = v0.alloc (.cells #[.int .i64 0, .slice none 0 0] 26) := ⟨_, rfl⟩
      obtain ⟨P, hP⟩ : ∃ z, z = v0.heap.size := ⟨_, rfl⟩
      rw [← hV_, ← hP]
      have b9 : Below v0.heap.size v0 v0_17 := by rw [hV_]; exact below0 _ _
      have HP : Hid (Blk v0_17 P [.int .i64 0, .slice none 0 0]) := by show Blk _ _ _; rw [hV_, hP]; exact Blk.new _ #[.int .i64 0, .slice none 0 0] _
      have lp0 : w1.heap.size ≤ P := by rw [hP]; exact HB9.out.size
      replace HB9 : Hid (Below w1.heap.size w1 v0_17) := HB9.out.trans (b9.mono HB9.out.size)
      clear b9 hV_ hP
      refine hK.out _ _ (⟨(HB9.out.cell (p := ⟨w.heap.size, 0, none⟩) z0).trans p0, (HB9.out.cell (p := ⟨w.heap.size, 1, none⟩) z0).trans p1⟩) (fun hHeld => ?_)
      clear hK KK
      refine wpAnyH_ready (rs := [1, 4]) (by kernel_rfl) (by simp) ?_
      refine (AllReadyH.cons rfl (fun KK hK => ?_) (AllReadyH.cons rfl (fun KK hK => ?_) AllReadyH.nil))
      · have lp_ : P < v0_17.heap.size := HP.out.1
        go_simp
        go_wp2_with (first | (go_at_call 47; refine (copied_any x s n c V _ hn2 (HR.out.below (B0.trans (HB9.out.mono B0.size)))).mono ?_; rintro e v0_18 ⟨ba, rfl, hba, hA, b9⟩))
        have HA : Hid (AlM ba v0_18 n V) := hA
        have la0 : w1.heap.size ≤ ba := Nat.le_trans HB9.out.size hba
        have d15 : ba ≠ P := by omega
        replace HP : Hid (Blk v0_18 P [.int .i64 0, .slice none 0 0]) := HP.out.below b9
        replace HB9 : Hid (Below w1.heap.size w1 v0_18) := HB9.out.trans (b9.mono HB9.out.size)
        clear b9 hA hba
        clear lp_
        refine hK.out _ _ (⟨(HB9.out.cell (p := ⟨w.heap.size, 0, none⟩) z0).trans p0, (HB9.out.cell (p := ⟨w.heap.size, 1, none⟩) z0).trans p1⟩) (fun hHeld => ?_)
        clear hK KK
        refine wpAnyH_ready (rs := [4, 6]) (by kernel_rfl) (by simp) ?_
        refine (AllReadyH.cons rfl (fun KK hK => ?_) (AllReadyH.cons rfl (fun KK hK => ?_) AllReadyH.nil))
        · have la_ : ba < v0_18.heap.size := HA.out.1
          have lp_ : P < v0_18.heap.size := HP.out.1
          go_simp
          obtain ⟨v0_19, hV_⟩ : ∃ z, z = v0_18.alloc (.cells (madeCells #[.slice none 0 0] m) 33) := ⟨_, rfl⟩
          obtain ⟨bs, hbs⟩ : ∃ z, z = v0_18.heap.size := ⟨_, rfl⟩
          rw [← hV_, ← hbs]
          have b9 : Below v0_18.heap.size v0_18 v0_19 := by rw [hV_]; exact below0 _ _
          have HL : Hid (Blk v0_19 bs (madeCells #[.slice none 0 0] m).toList) := by show Blk _ _ _; rw [hV_, hbs]; exact Blk.new _ _ _
          have ll0 : w1.heap.size ≤ bs := by rw [hbs]; exact HB9.out.size
          have d14 : ba ≠ bs := by omega
          have d45 : bs ≠ P := by omega
          replace HA : Hid (AlM ba v0_19 n V) := HA.out.below b9
          replace HP : Hid (Blk v0_19 P [.int .i64 0, .slice none 0 0]) := HP.out.below b9
          replace HB9 : Hid (Below w1.heap.size w1 v0_19) := HB9.out.trans (b9.mono HB9.out.size)
          clear b9 hV_ hbs
          clear la_ lp_
          refine hK.out _ _ (⟨(HB9.out.cell (p := ⟨w.heap.size, 0, none⟩) z0).trans p0, (HB9.out.cell (p := ⟨w.heap.size, 1, none⟩) z0).trans p1⟩) (fun hHeld => ?_)
          clear hK KK
          refine wpAnyH_ready (rs := [6]) (by kernel_rfl) (by simp) ?_
          refine (AllReadyH.cons rfl (fun KK hK => ?_) AllReadyH.nil)
          have q0_ : v0_19.cell? ⟨P, 0, none⟩ = some (.int .i64 0) := HP.out.2.2 0 _ rfl
          have q1_ : v0_19.cell? ⟨P, 1, none⟩ = some (.slice none 0 0) := HP.out.2.2 1 _ rfl
          have qf_ : ∀ o, v0_19.frozen? ⟨P, o, none⟩ = false := HP.out.2.1
          have lp_ : P < v0_19.heap.size := HP.out.1
          go_simp
          obtain ⟨v0_20, hV_⟩ : ∃ z, z = (v0_19.setCell ⟨P, 0, none⟩ (.int .i64 x)).setCell ⟨P, 1, none⟩ (.slice (some ⟨ba, 0, none⟩) n n) := ⟨_, rfl⟩
          rw [← hV_]
          have bs9 : Beside P v0_19 v0_20 := by rw [hV_]; exact (Beside.setCell _ _ _ _).trans (Beside.setCell _ _ _ _)
          replace HP : Hid (Blk v0_20 P [.int .i64 x, .slice (some ⟨ba, 0, none⟩) n n]) := by show Blk _ _ _; rw [hV_]; exact (HP.out.set 0 (.int .i64 x)).set 1 (.slice (some ⟨ba, 0, none⟩) n n)
          replace HA : Hid (AlM ba v0_20 n V) := HA.out.beside bs9 d15
          replace HL : Hid (Blk v0_20 bs (madeCells #[.slice none 0 0] m).toList) := HL.out.beside bs9 d45
          replace HB9 : Hid (Below w1.heap.size w1 v0_20) := HB9.out.trans (bs9.below lp0 HB9.out.size)
          clear hV_ bs9 q0_ q1_ qf_ lp_
          refine hK.out _ _ (⟨(HB9.out.cell (p := ⟨w.heap.size, 0, none⟩) z0).trans p0, (HB9.out.cell (p := ⟨w.heap.size, 1, none⟩) z0).trans p1⟩) (fun hHeld => ?_)
          clear hK KK
          refine wpAnyH_ready (rs := [7]) (by kernel_rfl) (by simp) ?_
          refine AllReadyH.cons rfl (fun KK hK => ?_) AllReadyH.nil
          go_simp
          refine hK.out _ _ hHeld (fun hHeld => ?_)
          clear hK KK
          refine wpAnyH_done (by kernel_rfl) ?_ _
          clear hHeld
          go_wp2_with fail
          go_meet
          refine ⟨P, bs, rfl, rfl, some ⟨ba, 0, none⟩, n, fun q => q = ba, ?_, lp0, d45, ?_, ⟨HA.out.own.mono (Nat.zero_le _), fun _ b' e => by cases e; rfl⟩, fun q hq => by subst hq; exact ⟨d15, la0, HA.out.1⟩, HB9.out⟩
          · have := HP.out; simpa using this
          · refine LT.start (w := w1) ⟨ll0, d45, fun e => d14 e.symm⟩ HL.out.1 HL.out.2.1 (fun i hi => HL.out.2.2 i _ ?_)
            have hm_ := made_sl hi
            simpa using hm_
        · have q0_ : v0_18.cell? ⟨P, 0, none⟩ = some (.int .i64 0) := HP.out.2.2 0 _ rfl
          have q1_ : v0_18.cell? ⟨P, 1, none⟩ = some (.slice none 0 0) := HP.out.2.2 1 _ rfl
          have qf_ : ∀ o, v0_18.frozen? ⟨P, o, none⟩ = false := HP.out.2.1
          have lp_ : P < v0_18.heap.size := HP.out.1
          go_simp
          obtain ⟨v0_21, hV_⟩ : ∃ z, z = (v0_18.setCell ⟨P, 0, none⟩ (.int .i64 x)).setCell ⟨P, 1, none⟩ (.slice (some ⟨ba, 0, none⟩) n n) := ⟨_, rfl⟩
          rw [← hV_]
          have bs9 : Beside P v0_18 v0_21 := by rw [hV_]; exact (Beside.setCell _ _ _ _).trans (Beside.setCell _ _ _ _)
          replace HP : Hid (Blk v0_21 P [.int .i64 x, .slice (some ⟨ba, 0, none⟩) n n]) := by show Blk _ _ _; rw [hV_]; exact (HP.out.set 0 (.int .i64 x)).set 1 (.slice (some ⟨ba, 0, none⟩) n n)
          replace HA : Hid (AlM ba v0_21 n V) := HA.out.beside bs9 d15
          replace HB9 : Hid (Below w1.heap.size w1 v0_21) := HB9.out.trans (bs9.below lp0 HB9.out.size)
          clear hV_ bs9 q0_ q1_ qf_ lp_
          refine hK.out _ _ (⟨(HB9.out.cell (p := ⟨w.heap.size, 0, none⟩) z0).trans p0, (HB9.out.cell (p := ⟨w.heap.size, 1, none⟩) z0).trans p1⟩) (fun hHeld => ?_)
          clear hK KK
          refine wpAnyH_ready (rs := [4]) (by kernel_rfl) (by simp) ?_
          refine (AllReadyH.cons rfl (fun KK hK => ?_) AllReadyH.nil)
          have la_ : ba < v0_21.heap.size := HA.out.1
          have lp_ : P < v0_21.heap.size := HP.out.1
          go_simp
          obtain ⟨v0_22, hV_⟩ : ∃ z, z = v0_21.alloc (.cells (madeCells #[.slice none 0 0] m) 33) := ⟨_, rfl⟩
          obtain ⟨bs, hbs⟩ : ∃ z, z = v0_21.heap.size := ⟨_, rfl⟩
          rw [← hV_, ← hbs]
          have b9 : Below v0_21.heap.size v0_21 v0_22 := by rw [hV_]; exact below0 _ _
          have HL : Hid (Blk v0_22 bs (madeCells #[.slice none 0 0] m).toList) := by show Blk _ _ _; rw [hV_, hbs]; exact Blk.new _ _ _
          have ll0 : w1.heap.size ≤ bs := by rw [hbs]; exact HB9.out.size
          have d14 : ba ≠ bs := by omega
          have d45 : bs ≠ P := by omega
          replace HA : Hid (AlM ba v0_22 n V) := HA.out.below b9
          replace HP : Hid (Blk v0_22 P [.int .i64 x, .slice (some ⟨ba, 0, none⟩) n n]) := HP.out.below b9
          replace HB9 : Hid (Below w1.heap.size w1 v0_22) := HB9.out.trans (b9.mono HB9.out.size)
          clear b9 hV_ hbs
          clear la_ lp_
          refine hK.out _ _ (⟨(HB9.out.cell (p := ⟨w.heap.size, 0, none⟩) z0).trans p0, (HB9.out.cell (p := ⟨w.heap.size, 1, none⟩) z0).trans p1⟩) (fun hHeld => ?_)
          clear hK KK
          refine wpAnyH_ready (rs := [7]) (by kernel_rfl) (by simp) ?_
          refine AllReadyH.cons rfl (fun KK hK => ?_) AllReadyH.nil
          go_simp
          refine hK.out _ _ hHeld (fun hHeld => ?_)
          clear hK KK
          refine wpAnyH_done (by kernel_rfl) ?_ _
          clear hHeld
          go_wp2_with fail
          go_meet
          refine ⟨P, bs, rfl, rfl, some ⟨ba, 0, none⟩, n, fun q => q = ba, ?_, lp0, d45, ?_, ⟨HA.out.own.mono (Nat.zero_le _), fun _ b' e => by cases e; rfl⟩, fun q hq => by subst hq; exact ⟨d15, la0, HA.out.1⟩, HB9.out⟩
          · have := HP.out; simpa using this
          · refine LT.start (w := w1) ⟨ll0, d45, fun e => d14 e.symm⟩ HL.out.1 HL.out.2.1 (fun i hi => HL.out.2.2 i _ ?_)
            have hm_ := made_sl hi
            simpa using hm_
      · have lp_ : P < v0_17.heap.size := HP.out.1
        go_simp
        obtain ⟨v0_23, hV_⟩ : ∃ z, z = v0_17.alloc (.cells (madeCells #[.slice none 0 0] m) 33) := ⟨_, rfl⟩
        obtain ⟨bs, hbs⟩ : ∃ z, z = v0_17.heap.size := ⟨_, rfl⟩
        rw [← hV_, ← hbs]
        have b9 : Below v0_17.heap.size v0_17 v0_23 := by rw [hV_]; exact below0 _ _
        have HL : Hid (Blk v0_23 bs (madeCells #[.slice none 0 0] m).toList) := by show Blk _ _ _; rw [hV_, hbs]; exact Blk.new _ _ _
        have ll0 : w1.heap.size ≤ bs := by rw [hbs]; exact HB9.out.size
        have d45 : bs ≠ P := by omega
        replace HP : Hid (Blk v0_23 P [.int .i64 0, .slice none 0 0]) := HP.out.below b9
        replace HB9 : Hid (Below w1.heap.size w1 v0_23) := HB9.out.trans (b9.mono HB9.out.size)
        clear b9 hV_ hbs
        clear lp_
        refine hK.out _ _ (⟨(HB9.out.cell (p := ⟨w.heap.size, 0, none⟩) z0).trans p0, (HB9.out.cell (p := ⟨w.heap.size, 1, none⟩) z0).trans p1⟩) (fun hHeld => ?_)
        clear hK KK
        refine wpAnyH_ready (rs := [1]) (by kernel_rfl) (by simp) ?_
        refine (AllReadyH.cons rfl (fun KK hK => ?_) AllReadyH.nil)
        have ll_ : bs < v0_23.heap.size := HL.out.1
        have lp_ : P < v0_23.heap.size := HP.out.1
        go_simp
        go_wp2_with (first | (go_at_call 47; refine (copied_any x s n c V _ hn2 (HR.out.below (B0.trans (HB9.out.mono B0.size)))).mono ?_; rintro e v0_24 ⟨ba, rfl, hba, hA, b9⟩))
        have HA : Hid (AlM ba v0_24 n V) := hA
        have la0 : w1.heap.size ≤ ba := Nat.le_trans HB9.out.size hba
        have d14 : ba ≠ bs := by omega
        have d15 : ba ≠ P := by omega
        replace HL : Hid (Blk v0_24 bs (madeCells #[.slice none 0 0] m).toList) := HL.out.below b9
        replace HP : Hid (Blk v0_24 P [.int .i64 0, .slice none 0 0]) := HP.out.below b9
        replace HB9 : Hid (Below w1.heap.size w1 v0_24) := HB9.out.trans (b9.mono HB9.out.size)
        clear b9 hA hba
        clear ll_ lp_
        refine hK.out _ _ (⟨(HB9.out.cell (p := ⟨w.heap.size, 0, none⟩) z0).trans p0, (HB9.out.cell (p := ⟨w.heap.size, 1, none⟩) z0).trans p1⟩) (fun hHeld => ?_)
        clear hK KK
        refine wpAnyH_ready (rs := [6]) (by kernel_rfl) (by simp) ?_
        refine (AllReadyH.cons rfl (fun KK hK => ?_) AllReadyH.nil)
        have q0_ : v0_24.cell? ⟨P, 0, none⟩ = some (.int .i64 0) := HP.out.2.2 0 _ rfl
        have q1_ : v0_24.cell? ⟨P, 1, none⟩ = some (.slice none 0 0) := HP.out.2.2 1 _ rfl
        have qf_ : ∀ o, v0_24.frozen? ⟨P, o, none⟩ = false := HP.out.2.1
        have lp_ : P < v0_24.heap.size := HP.out.1
        go_simp
        obtain ⟨v0_25, hV_⟩ : ∃ z, z = (v0_24.setCell ⟨P, 0, none⟩ (.int .i64 x)).setCell ⟨P, 1, none⟩ (.slice (some ⟨ba, 0, none⟩) n n) := ⟨_, rfl⟩
        rw [← hV_]
        have bs9 : Beside P v0_24 v0_25 := by rw [hV_]; exact (Beside.setCell _ _ _ _).trans (Beside.setCell _ _ _ _)
        replace HP : Hid (Blk v0_25 P [.int .i64 x, .slice (some ⟨ba, 0, none⟩) n n]) := by show Blk _ _ _; rw [hV_]; exact (HP.out.set 0 (.int .i64 x)).set 1 (.slice (some ⟨ba, 0, none⟩) n n)
        replace HA : Hid (AlM ba v0_25 n V) := HA.out.beside bs9 d15
        replace HL : Hid (Blk v0_25 bs (madeCells #[.slice none 0 0] m).toList) := HL.out.beside bs9 d45
        replace HB9 : Hid (Below w1.heap.size w1 v0_25) := HB9.out.trans (bs9.below lp0 HB9.out.size)
        clear hV_ bs9 q0_ q1_ qf_ lp_
        refine hK.out _ _ (⟨(HB9.out.cell (p := ⟨w.heap.size, 0, none⟩) z0).trans p0, (HB9.out.cell (p := ⟨w.heap.size, 1, none⟩) z0).trans p1⟩) (fun hHeld => ?_)
        clear hK KK
        refine wpAnyH_ready (rs := [7]) (by kernel_rfl) (by simp) ?_
        refine AllReadyH.cons rfl (fun KK hK => ?_) AllReadyH.nil
        go_simp
        refine hK.out _ _ hHeld (fun hHeld => ?_)
        clear hK KK
        refine wpAnyH_done (by kernel_rfl) ?_ _
        clear hHeld
        go_wp2_with fail
        go_meet
        refine ⟨P, bs, rfl, rfl, some ⟨ba, 0, none⟩, n, fun q => q = ba, ?_, lp0, d45, ?_, ⟨HA.out.own.mono (Nat.zero_le _), fun _ b' e => by cases e; rfl⟩, fun q hq => by subst hq; exact ⟨d15, la0, HA.out.1⟩, HB9.out⟩
        · have := HP.out; simpa using this
        · refine LT.start (w := w1) ⟨ll0, d45, fun e => d14 e.symm⟩ HL.out.1 HL.out.2.1 (fun i hi => HL.out.2.2 i _ ?_)
          have hm_ := made_sl hi
          simpa using hm_
  obtain ⟨P, bs, rfl, rfl, HI⟩ := hcut
  rename World => w2
  have lP : w1.heap.size ≤ P := by obtain ⟨_, _, _, _, h, _⟩ := HI.out; exact h
  have dP : bs ≠ P := by obtain ⟨_, _, _, _, _, h, _⟩ := HI.out; exact h
  have HR0 : Hid (w1.cell? ⟨w.heap.size + 1, 0, none⟩ = some (.int .i64 0)) := r0
  have HR1 : Hid (w1.cell? ⟨w.heap.size + 1, 1, none⟩ = some (.slice none 0 0)) := r1
  have HFR : Hid (∀ o, w1.frozen? ⟨w.heap.size + 1, o, none⟩ = false) := fr
  have HB0 : Hid (Below w.heap.size w w1) := B0
  clear r0 r1 fr p0 p1 hml B0
  go_wp2_with fail
  go_loopw [30] (fun i wr => ∃ k : Nat, k ≤ m ∧ i = .int .i64 k ∧ Hid (bqT x n V Z k = true) ∧ Hid (BqI w1 P bs x n V m Z k wr)) (fun i _ => m - (intOf i).toNat)
  case atStart => exact ⟨0, Nat.zero_le _, rfl, rfl, HI⟩
  case round =>
    clear HI
    obtain ⟨k, hk, rfl, HT, HI⟩ := hrel
    obtain ⟨s', c', S', hP, -, -, hL, hA, hS, hB⟩ := HI.out
    have HP : Hid (Blk wr P [.int .i64 (x + (k : Int)), .slice s' n c']) := hP
    have HL : Hid (LT (fun q => w1.heap.size ≤ q ∧ q ≠ P ∧ ¬ S' q) bs wr m k (bqK x n V Z) (bqU x n V Z)) := hL
    have HA : Hid (AlarmR S' wr s' n (bqV x n V Z k)) := hA
    have HS : Hid (∀ q, S' q → q ≠ P ∧ w1.heap.size ≤ q ∧ q < wr.heap.size) := hS
    have HB : Hid (Below w1.heap.size w1 wr) := hB
    have n0 : wr.cell? ⟨P, 0, none⟩ = some (.int .i64 (x + (k : Int))) := hP.2.2 0 _ rfl
    have n1 : wr.cell? ⟨P, 1, none⟩ = some (.slice s' n c') := hP.2.2 1 _ rfl
    have nf : ∀ o, wr.frozen? ⟨P, o, none⟩ = false := hP.2.1
    have zP : P < wr.heap.size := hP.1
    have zw : w1.heap.size ≤ wr.heap.size := hB.size
    have r0 : wr.cell? ⟨w.heap.size + 1, 0, none⟩ = some (.int .i64 0) := (hB.cell (p := ⟨w.heap.size + 1, 0, none⟩) z1).trans HR0.out
    have r1 : wr.cell? ⟨w.heap.size + 1, 1, none⟩ = some (.slice none 0 0) := (hB.cell (p := ⟨w.heap.size + 1, 1, none⟩) z1).trans HR1.out
    have fr : ∀ o, wr.frozen? ⟨w.heap.size + 1, o, none⟩ = false := fun o => (hB.frozen (p := ⟨w.heap.size + 1, o, none⟩) z1).trans (HFR.out o)
    clear hP hL hA hS hB HI
    by_cases h1 : k < m
    case neg =>
      obtain rfl : k = m := by omega
      have HO : Hid (bqB x n V k Z = true) := HF.out _ HT.out
      have BW : Below w.heap.size w wr := HB0.out.trans (HB.out.mono HB0.out.size)
      clear HT HF hk h1
      go_upto_region 12 with fail
      go_region
      all_goals
        go_wp2
        have bes : Beside (w.heap.size + 1) wr ((wr.setCell ⟨w.heap.size + 1, 0, none⟩ (.int .i64 (x + (k : Int)))).setCell ⟨w.heap.size + 1, 1, none⟩ (.slice s' n c')) := (Beside.setCell _ _ _ _).trans (Beside.setCell _ _ _ _)
        exact bodyPost_ret (v := .tuple #[.slice (some ⟨bs, 0, none⟩) k k, .agg #[.int .i64 (x + (k : Int)), .slice s' n c'], .bool true]) (by simp [results, Try.results12, go_sem, r0, r1]) rfl (bq_yes (S0 := fun q => (w1.heap.size ≤ q ∧ q ≠ P ∧ ¬ S' q) ∧ q < wr.heap.size) (S1 := S') HO.out (fun q hq => by have := hq.1.1; have := hq.2; simp; omega) (HL.out.done.bound.keep (by simp) (fun q hq hl => bes.2.2.2.2 q hl (by have := hq.1.1; omega))) (fun q hq => by have := HS.out q hq; simp; omega) (HA.out.keep (by simp) (fun q hq hl => bes.2.2.2.2 q hl (by have := HS.out q hq; omega))) (fun q hq h => hq.1.2.2 h) (by repeat (first | with_reducible exact Below.refl _ _ | with_reducible exact BW | with_reducible refine Below.setCell ?_ (by first | omega | (simp; done) | (simp; omega)) _ | with_reducible refine bDrewN ?_ _ | with_reducible refine Below.drew ?_ | with_reducible refine Below.alloc ?_ (by first | omega | (simp; done) | (simp; omega)) _)))
    obtain ⟨b, o, s1, c1, s2, c2, s3, c3, rfl, hb, c0_, c1_, c2_, c3_, hr⟩ := HZ.out k h1
    have hE := HZ2.out k h1
    have BW : Below w.heap.size w wr := HB0.out.trans (HB.out.mono HB0.out.size)
    replace c0_ := (BW.cell (p := ⟨b, o + k * 4, none⟩) hb).trans c0_
    replace c1_ := (BW.cell (p := ⟨b, o + k * 4 + 1, none⟩) hb).trans c1_
    replace c2_ := (BW.cell (p := ⟨b, o + k * 4 + 2, none⟩) hb).trans c2_
    replace c3_ := (BW.cell (p := ⟨b, o + k * 4 + 3, none⟩) hb).trans c3_
    replace hr := hr.below BW
    have eO : bqO x n V Z k = stpB (x + (k : Int)) n (bqV x n V Z k) ((Z k).1) ((Z k).2.1) ((Z k).2.2.2.1) ((Z k).2.2.2.2.1) ((Z k).2.2.2.2.2.1) ((Z k).2.2.2.2.2.2) := rfl
    have eV : bqV x n V Z (k + 1) = stV (x + (k : Int)) n (bqV x n V Z k) ((Z k).1) ((Z k).2.1) ((Z k).2.2.1) ((Z k).2.2.2.1) ((Z k).2.2.2.2.1) ((Z k).2.2.2.2.2.1) ((Z k).2.2.2.2.2.2) := rfl
    have eL : bqL x n V Z k = stT (x + (k : Int)) n (bqV x n V Z k) ((Z k).1) ((Z k).2.1) ((Z k).2.2.1) ((Z k).2.2.2.1) ((Z k).2.2.2.2.1) ((Z k).2.2.2.2.2.1) ((Z k).2.2.2.2.2.2) := rfl
    have eK : bqK x n V Z k = (bqL x n V Z k).length := rfl
    have eU : bqU x n V Z k = nthI (bqL x n V Z k) := rfl
    obtain ⟨⟨mo, nt, Th, ns, Se, nh, Sh⟩, hz⟩ : ∃ z, Z k = z := ⟨_, rfl⟩
    rw [hz] at c0_ c1_ c2_ c3_ hr hE eO eV eL
    dsimp only at c0_ c1_ c2_ c3_ hr hE eO eV eL
    obtain ⟨hn1, hn2', hn3⟩ := hE
    have HSc : Hid (RowScan wr s1 nt Th s2 ns Se s3 nh Sh) := hr
    have HeV : Hid (bqV x n V Z (k + 1) = stV (x + (k : Int)) n (bqV x n V Z k) mo nt Th ns Se nh Sh) := eV
    have HeL : Hid (bqK x n V Z k = (stT (x + (k : Int)) n (bqV x n V Z k) mo nt Th ns Se nh Sh).length ∧ bqU x n V Z k = nthI (stT (x + (k : Int)) n (bqV x n V Z k) mo nt Th ns Se nh Sh)) := ⟨by rw [eK, eL], by rw [eU, eL]⟩
    have HBW : Hid (Below w.heap.size w wr) := BW
    have k1 : (k : Int) < (m : Int) := by omega
    have e0 := HL.out.2.2.2.1 k (Nat.le_refl _) h1
    have f0 := HL.out.2.2.1 k
    have zb := HL.out.2.1
    have lb := HL.out.1
    clear hr hz eV eL eK eU hb BW
    cases q : stpB (x + (k : Int)) n (bqV x n V Z k) mo nt ns Se nh Sh
    case false =>
      have HO : Hid (bqB x n V m Z = false) := HF.out _ (bqT_no (show k + 1 ≤ m by omega) (by simp [bqT, eO, q]))
      clear eO HF HT
      go_wp2_with fail
      refine (implBoardStep_any (x + (k : Int)) s' n c' (bqV x n V Z k) mo s1 nt c1 Th s2 ns c2 Se s3 nh c3 Sh _ hn hn1 hn2' hn3 (HA.out.row.below (by repeat (first | with_reducible exact Below.refl _ _ | with_reducible refine Below.setCell ?_ (by first | omega | (simp; done) | (simp; omega)) _ | with_reducible refine bDrewN ?_ _ | with_reducible refine Below.drew ?_ | with_reducible refine Below.alloc ?_ (by first | omega | (simp; done) | (simp; omega)) _))) (HSc.out.1.below (by repeat (first | with_reducible exact Below.refl _ _ | with_reducible refine Below.setCell ?_ (by first | omega | (simp; done) | (simp; omega)) _ | with_reducible refine bDrewN ?_ _ | with_reducible refine Below.drew ?_ | with_reducible refine Below.alloc ?_ (by first | omega | (simp; done) | (simp; omega)) _))) (HSc.out.2.1.below (by repeat (first | with_reducible exact Below.refl _ _ | with_reducible refine Below.setCell ?_ (by first | omega | (simp; done) | (simp; omega)) _ | with_reducible refine bDrewN ?_ _ | with_reducible refine Below.drew ?_ | with_reducible refine Below.alloc ?_ (by first | omega | (simp; done) | (simp; omega)) _))) (HSc.out.2.2.below (by repeat (first | with_reducible exact Below.refl _ _ | with_reducible refine Below.setCell ?_ (by first | omega | (simp; done) | (simp; omega)) _ | with_reducible refine bDrewN ?_ _ | with_reducible refine Below.drew ?_ | with_reducible refine Below.alloc ?_ (by first | omega | (simp; done) | (simp; omega)) _)))).mono ?_
      intro e w3 hx
      obtain ⟨t0, d0, t1, d1, rfl, h3⟩ := bs_out_no hx q
      have B3 : Below wr.heap.size wr w3 := Below.trans (by repeat (first | with_reducible exact Below.refl _ _ | with_reducible refine Below.setCell ?_ (by first | omega | (simp; done) | (simp; omega)) _ | with_reducible refine bDrewN ?_ _ | with_reducible refine Below.drew ?_ | with_reducible refine Below.alloc ?_ (by first | omega | (simp; done) | (simp; omega)) _)) (h3.mono (by first | omega | (simp; done) | (simp; omega)))
      have r0' := (B3.cell (p := ⟨w.heap.size + 1, 0, none⟩) (by show w.heap.size + 1 < _; omega)).trans r0
      have r1' := (B3.cell (p := ⟨w.heap.size + 1, 1, none⟩) (by show w.heap.size + 1 < _; omega)).trans r1
      have fr' : ∀ o, w3.frozen? ⟨w.heap.size + 1, o, none⟩ = false := fun o => (B3.frozen (p := ⟨w.heap.size + 1, o, none⟩) (by show w.heap.size + 1 < _; omega)).trans (fr o)
      have z3 : w.heap.size + 1 < w3.heap.size := by have := B3.size; omega
      have B4 : Below w.heap.size w w3 := HBW.out.trans (B3.mono HBW.out.size)
      clear hx h3 B3 r0 r1 fr
      go_wp2
      exact bodyPost_ret (v := .tuple #[.slice none 0 0, .agg #[.int .i64 0, .slice none 0 0], .bool false]) (by simp [results, Try.results12, go_sem, r0', r1', z3]) rfl (bq_no HO.out (by repeat (first | with_reducible exact Below.refl _ _ | with_reducible exact B4 | with_reducible refine Below.setCell ?_ (by first | omega | (simp; done) | (simp; omega)) _ | with_reducible refine bDrewN ?_ _ | with_reducible refine Below.drew ?_ | with_reducible refine Below.alloc ?_ (by first | omega | (simp; done) | (simp; omega)) _)))
    have HT3 : Hid (bqT x n V Z (k + 1) = true) := by show _ = _; simp [bqT, HT.out, eO, q]
    clear eO r0 r1 fr HBW
    go_wp2_with fail
    refine (implBoardStep_any (x + (k : Int)) s' n c' (bqV x n V Z k) mo s1 nt c1 Th s2 ns c2 Se s3 nh c3 Sh _ hn hn1 hn2' hn3 (HA.out.row.below (by repeat (first | with_reducible exact Below.refl _ _ | with_reducible refine Below.setCell ?_ (by first | omega | (simp; done) | (simp; omega)) _ | with_reducible refine bDrewN ?_ _ | with_reducible refine Below.drew ?_ | with_reducible refine Below.alloc ?_ (by first | omega | (simp; done) | (simp; omega)) _))) (HSc.out.1.below (by repeat (first | with_reducible exact Below.refl _ _ | with_reducible refine Below.setCell ?_ (by first | omega | (simp; done) | (simp; omega)) _ | with_reducible refine bDrewN ?_ _ | with_reducible refine Below.drew ?_ | with_reducible refine Below.alloc ?_ (by first | omega | (simp; done) | (simp; omega)) _))) (HSc.out.2.1.below (by repeat (first | with_reducible exact Below.refl _ _ | with_reducible refine Below.setCell ?_ (by first | omega | (simp; done) | (simp; omega)) _ | with_reducible refine bDrewN ?_ _ | with_reducible refine Below.drew ?_ | with_reducible refine Below.alloc ?_ (by first | omega | (simp; done) | (simp; omega)) _))) (HSc.out.2.2.below (by repeat (first | with_reducible exact Below.refl _ _ | with_reducible refine Below.setCell ?_ (by first | omega | (simp; done) | (simp; omega)) _ | with_reducible refine bDrewN ?_ _ | with_reducible refine Below.drew ?_ | with_reducible refine Below.alloc ?_ (by first | omega | (simp; done) | (simp; omega)) _)))).mono ?_
    intro e w3 hx
    obtain ⟨t0, d0, t1, d1, S0, S1, rfl, Q0, O0, Q1, O1, D01, h3⟩ := bs_out_yes hx q
    have B3 : Below wr.heap.size wr w3 := Below.trans (by repeat (first | with_reducible exact Below.refl _ _ | with_reducible refine Below.setCell ?_ (by first | omega | (simp; done) | (simp; omega)) _ | with_reducible refine bDrewN ?_ _ | with_reducible refine Below.drew ?_ | with_reducible refine Below.alloc ?_ (by first | omega | (simp; done) | (simp; omega)) _)) (h3.mono (by first | omega | (simp; done) | (simp; omega)))
    have sz3 := B3.size
    have HQ0 : Hid (∀ k, S0 k → wr.heap.size ≤ k ∧ k < w3.heap.size) := fun k hk => by have := Q0 k hk; simp at this; omega
    have HQ1 : Hid (∀ k, S1 k → wr.heap.size ≤ k ∧ k < w3.heap.size) := fun k hk => by have := Q1 k hk; simp at this; omega
    rw [← HeV.out] at O0
    rw [← HeL.out.1, ← HeL.out.2] at O1
    rw [← HeL.out.1]
    have HO0 : Hid (AlarmR S0 w3 t0 n (bqV x n V Z (k + 1))) := O0
    have HO1 : Hid (I64R S1 w3 t1 (bqK x n V Z k) (bqU x n V Z k)) := O1
    have HD : Hid (∀ k, S0 k → ¬ S1 k) := D01
    have HLr : Hid (LT (fun q => (w1.heap.size ≤ q ∧ q ≠ P ∧ ¬ S0 q) ∧ q < wr.heap.size) bs wr m k (bqK x n V Z) (bqU x n V Z)) := HL.out.re (S2 := fun q => (w1.heap.size ≤ q ∧ q ≠ P ∧ ¬ S0 q) ∧ q < wr.heap.size) (fun q hq hl => ⟨⟨hq.1, hq.2.1, fun h => by have := HQ0.out q h; omega⟩, hl⟩)
    have HB3 : Hid (Below w1.heap.size w1 w3) := HB.out.trans (B3.mono zw)
    have HBr : Hid (Below wr.heap.size wr w3) := B3
    replace n0 := (B3.cell (p := ⟨P, 0, none⟩) zP).trans n0
    replace n1 := (B3.cell (p := ⟨P, 1, none⟩) zP).trans n1
    replace nf : ∀ o, w3.frozen? ⟨P, o, none⟩ = false := fun o => (B3.frozen (p := ⟨P, o, none⟩) zP).trans (nf o)
    replace e0 := (B3.cell (p := ⟨bs, k, none⟩) zb).trans e0
    replace f0 := (B3.frozen (p := ⟨bs, k, none⟩) zb).trans f0
    have zP3 : P < w3.heap.size := by omega
    have zb3 : bs < w3.heap.size := by omega
    have HP3 : Hid (Blk w3 P [.int .i64 (x + (k : Int)), .slice s' n c']) := HP.out.below B3
    clear hx Q0 O0 Q1 O1 D01 h3 B3 c0_ c1_ c2_ c3_ HL HA HS HB HP HSc HeV
    go_upto_region 10 with fail
    obtain ⟨w4, hw4⟩ : ∃ z, z = w3.alloc (.cells #[.int .i64 (x + (k : Int) + 1), .slice t0 n d0] 26) := ⟨_, rfl⟩
    obtain ⟨g4, hg4⟩ : ∃ z, z = w3.heap.size := ⟨_, rfl⟩
    rw [← hw4, ← hg4]
    have b4 : Below w3.heap.size w3 w4 := by rw [hw4]; exact below0 _ _
    have y0 : w4.cell? ⟨g4, 0, none⟩ = some (.int .i64 (x + (k : Int) + 1)) := by rw [hw4, hg4]; simp [go_sem]
    have y1 : w4.cell? ⟨g4, 1, none⟩ = some (.slice t0 n d0) := by rw [hw4, hg4]; simp [go_sem]
    have g4P : g4 ≠ P := by omega
    replace n0 := (b4.cell (p := ⟨P, 0, none⟩) zP3).trans n0
    replace n1 := (b4.cell (p := ⟨P, 1, none⟩) zP3).trans n1
    replace nf : ∀ o, w4.frozen? ⟨P, o, none⟩ = false := fun o => (b4.frozen (p := ⟨P, o, none⟩) zP3).trans (nf o)
    replace e0 := (b4.cell (p := ⟨bs, k, none⟩) zb3).trans e0
    replace f0 := (b4.frozen (p := ⟨bs, k, none⟩) zb3).trans f0
    have HB4 : Hid (Below wr.heap.size wr w4) := HBr.out.trans (b4.mono HBr.out.size)
    replace HO0 : Hid (AlarmR S0 w4 t0 n (bqV x n V Z (k + 1))) := HO0.out.below b4
    replace HO1 : Hid (I64R S1 w4 t1 (bqK x n V Z k) (bqU x n V Z k)) := HO1.out.below b4
    replace HP3 : Hid (Blk w4 P [.int .i64 (x + (k : Int)), .slice s' n c']) := HP3.out.below b4
    replace HB3 : Hid (Below w1.heap.size w1 w4) := HB3.out.trans (b4.mono HB3.out.size)
    have sz4 := b4.size
    clear hw4 hg4 b4
    go_wp2
    obtain ⟨w5, hw5⟩ : ∃ z, z = (w4.setCell ⟨P, 0, none⟩ (.int .i64 (x + (k : Int) + 1))).setCell ⟨P, 1, none⟩ (.slice t0 n d0) := ⟨_, rfl⟩
    rw [← hw5]
    have bP : Beside P w4 w5 := by rw [hw5]; exact (Beside.setCell _ _ _ _).trans (Beside.setCell _ _ _ _)
    have HP5 : Hid (Blk w5 P [.int .i64 (x + ((k + 1 : Nat) : Int)), .slice t0 n d0]) := by
      show Blk _ _ _
      have e1 : x + ((k + 1 : Nat) : Int) = x + (k : Int) + 1 := by omega
      rw [hw5, e1]
      exact (HP3.out.set 0 (.int .i64 (x + (k : Int) + 1))).set 1 (.slice t0 n d0)
    have hb5 : Beside P wr w5 := (Beside.of HB4.out).trans bP
    have s5 : w5.heap.size = w4.heap.size := by rw [hw5]; simp
    have HO05 : Hid (AlarmR S0 w5 t0 n (bqV x n V Z (k + 1))) := HO0.out.keep (by omega) (fun q hq hl => bP.2.2.2.2 q hl (by have := HQ0.out q hq; omega))
    have HO15 : Hid (I64R S1 w5 t1 (bqK x n V Z k) (bqU x n V Z k)) := HO1.out.keep (by omega) (fun q hq hl => bP.2.2.2.2 q hl (by have := HQ1.out q hq; omega))
    have HL5 : Hid (LT (fun q => (w1.heap.size ≤ q ∧ q ≠ P ∧ ¬ S0 q) ∧ q < wr.heap.size) bs w5 m k (bqK x n V Z) (bqU x n V Z)) := by
      obtain ⟨l1, l2, l3, l4, l5⟩ := HLr.out
      refine ⟨l1, by have := hb5.2.2.2.1; omega, fun o => (hb5.frozen (p := ⟨bs, o, none⟩) l2 dP).trans (l3 o), fun i h1 h2 => (hb5.cell (p := ⟨bs, i, none⟩) l2 dP).trans (l4 i h1 h2), l5.keep hb5.2.2.2.1 (fun q hq hl => hb5.2.2.2.2 q hl hq.1.2.1)⟩
    have hown : OwnI wr.heap.size w5 t1 (bqK x n V Z k) (bqU x n V Z k) := HO15.out.own (fun q hq => (HQ1.out q hq).1)
    have HL6 : Hid (LT (fun q => w1.heap.size ≤ q ∧ q ≠ P ∧ ¬ S0 q) bs (w5.setCell ⟨bs, k, none⟩ (.slice t1 (bqK x n V Z k) d1)) m (k + 1) (bqK x n V Z) (bqU x n V Z)) := by
      exact LT.onW (B := wr.heap.size) HL5.out h1 hown (fun b' z e => ⟨by have := HQ1.out b' (HO15.out.2 z b' e); omega, by have := HQ1.out b' (HO15.out.2 z b' e); omega, fun h => HD.out b' h (HO15.out.2 z b' e)⟩)
    go_roundw
    case rel => exact ⟨k + 1, by omega, by go_num, HT3, t0, d0, S0, HP5.out.beside (Beside.setCell bs _ _ _) (fun e => dP e.symm), lP, dP, HL6.out, HO05.out.keep (by simp) (fun q hq hl => (Beside.setCell bs w5 _ _).2.2.2.2 q hl (by have := HQ0.out q hq; omega)), fun q hq => by have := HQ0.out q hq; refine ⟨by omega, by omega, ?_⟩; simp; omega, (HB3.out.trans (bP.below lP HB3.out.size)).setCell (by have := lb.1; omega) _⟩
    case measure => simp [intOf]; omega
end Go.Proofs.Ytlbbdifmjdpfiaa
