/-
What is proved: when a scan is right for a board, as both packages say it.
-/
import Derived.Test.YtlbbdifmjdpfiaaBsNz
import Derived.Test.YtlbbdifmjdpfiaaZdC
import Derived.Test.YtlbbdifmjdpfiaaZdB
import Derived.Deep.RegionHeld3
import Derived.Deep.DeepCutAuto
namespace Go.Proofs.Ytlbbdifmjdpfiaa
set_option maxRecDepth 40000
open Go.ChangeShapes Go.WideShapes Go.ChangeAt Go.RowKit
set_option linter.unusedVariables false
set_option linter.unusedSimpArgs false

theorem shs_no {n m k : Nat} {Sh : Nat → Int × Int} (hk : k < m) (h : shfB n (Sh k) = false) : shsB n m Sh = false := by
  unfold shsB
  rw [decide_eq_false (p := ∀ j, j < m → shfB n (Sh j) = true) (fun q => by have := q k hk; rw [h] at this; cases this)]
  simp
set_option maxRecDepth 20000 in
set_option maxHeartbeats 4000000 in
theorem shelvesOk_any (n : Nat) (s : Option Addr) (m c : Nat) (Sh : Nat → Int × Int) (w : World) (hm : (m : Int) ≤ 1048576) (HR : Hid (RowShelf w s m Sh)) :
    Calls Try.prog 77 #[.slice s m c, .int .i64 ((n : Int) - 1)] w fun e w' => e = .returned (.bool (shsB n m Sh)) ∧ Below w.heap.size w w' := by
  by_cases n1 : 60 < m
  · have b1 : (60 : Int) < (m : Int) := by omega
    have HO : Hid (shsB n m Sh = false) := by show _ = _; unfold shsB; rw [decide_eq_false (by omega : ¬ m ≤ 60)]; rfl
    go_enter Try.func77, Try.ntmps77
    go_wp2
    go_ret
    exact ⟨ret_bool HO.out.symm, (by repeat (first | with_reducible exact Below.refl _ _ | with_reducible refine Below.setCell ?_ (by first | omega | (simp; done) | (simp; omega)) _ | with_reducible refine bDrewN ?_ _ | with_reducible refine Below.drew ?_ | with_reducible refine Below.alloc ?_ (by first | omega | (simp; done) | (simp; omega)) _))⟩
  have b1 : decide ((60 : Int) < (m : Int)) = false := decide_eq_false (by omega)
  have hm2 : (m : Int) ≤ 60 := by omega
  obtain ⟨l1, hl1⟩ : ∃ l1, (n : Int) - 1 = l1 := ⟨_, rfl⟩
  have HL : Hid ((n : Int) - 1 = l1) := hl1
  rw [hl1]
  clear hl1 hm
  go_enter Try.func77, Try.ntmps77
  go_wp2_with fail
  go_loopw [12] (fun i wr => ∃ k : Nat, k ≤ m ∧ i = .int .i64 k ∧ Hid (∀ j, j < k → shfB n (Sh j) = true) ∧ Below w.heap.size w wr) (fun i _ => m - (intOf i).toNat)
  case atStart => exact ⟨0, Nat.zero_le _, rfl, fun j hj => by omega, Below.refl _ _⟩
  case round =>
    obtain ⟨k, hk, rfl, HP, hB⟩ := hrel
    have zW := hB.size
    by_cases h1 : k < m
    · obtain ⟨g, o, rfl, hg, c0, c1⟩ := HR.out k h1
      replace c0 := (hB.cell (p := ⟨g, o + k * 2, none⟩) hg).trans c0
      replace c1 := (hB.cell (p := ⟨g, o + k * 2 + 1, none⟩) hg).trans c1
      obtain ⟨⟨a, t⟩, hV⟩ : ∃ z, Sh k = z := ⟨_, rfl⟩
      rw [hV] at c0 c1
      simp only at c0 c1
      have HV : Hid (shfB n (Sh k) = (inB 0 l1 a && inB 1 1000 t)) := by show _ = _; rw [hV, ← HL.out]; rfl
      have zg : g < wr.heap.size := by omega
      have k1 : (k : Int) < (m : Int) := by omega
      clear hV hg
      go_wp2_with fail
      refine (within_is _ _ _ _).mono ?_
      rintro e w1 ⟨rfl, rfl⟩
      cases e0 : inB 0 l1 a
      · have HO : Hid (shsB n m Sh = false) := shs_no h1 (by rw [HV.out, e0]; rfl)
        go_wp2
        go_ret
        exact ⟨ret_bool HO.out.symm, (by repeat (first | with_reducible exact Below.refl _ _ | with_reducible exact hB | with_reducible refine Below.setCell ?_ (by first | omega | (simp; done) | (simp; omega)) _ | with_reducible refine bDrewN ?_ _ | with_reducible refine Below.drew ?_ | with_reducible refine Below.alloc ?_ (by first | omega | (simp; done) | (simp; omega)) _))⟩
      go_wp2_with fail
      refine (within_is _ _ _ _).mono ?_
      rintro e w1 ⟨rfl, rfl⟩
      cases e1 : inB 1 1000 t
      · have HO : Hid (shsB n m Sh = false) := shs_no h1 (by rw [HV.out, e0, e1]; rfl)
        go_wp2
        go_ret
        exact ⟨ret_bool HO.out.symm, (by repeat (first | with_reducible exact Below.refl _ _ | with_reducible exact hB | with_reducible refine Below.setCell ?_ (by first | omega | (simp; done) | (simp; omega)) _ | with_reducible refine bDrewN ?_ _ | with_reducible refine Below.drew ?_ | with_reducible refine Below.alloc ?_ (by first | omega | (simp; done) | (simp; omega)) _))⟩
      have HK : Hid (shfB n (Sh k) = true) := by show _ = _; rw [HV.out, e0, e1]; rfl
      go_wp2
      go_roundw
      case rel => exact ⟨k + 1, by omega, by go_num, ball_succ HP.out HK.out, (by repeat (first | with_reducible exact Below.refl _ _ | with_reducible exact hB | with_reducible refine Below.setCell ?_ (by first | omega | (simp; done) | (simp; omega)) _ | with_reducible refine bDrewN ?_ _ | with_reducible refine Below.drew ?_ | with_reducible refine Below.alloc ?_ (by first | omega | (simp; done) | (simp; omega)) _))⟩
      case measure => first | (simp [intOf]; done) | (simp [intOf]; omega)
    · obtain rfl : k = m := by omega
      have HO : Hid (shsB n k Sh = true) := by show _ = _; unfold shsB; rw [decide_eq_true HP.out, decide_eq_true (by omega : k ≤ 60)]; rfl
      go_wp2
      go_ret
      exact ⟨ret_bool HO.out.symm, hB⟩
set_option maxHeartbeats 4000000 in
theorem rightFor_any (x : Int) (s : Option Addr) (n c : Nat) (V : Nat → Int × Int × Int × Bool × Int) (mo : Int) (st : Option Addr) (nt ct : Nat) (Th : Nat → Bool) (ss : Option Addr) (ns cs : Nat) (Se : Nat → Int) (sh : Option Addr) (nh ch : Nat) (Sh : Nat → Int × Int) (w : World) (hn : (n : Int) ≤ 1048576) (hns : (ns : Int) ≤ 1048576) (hnh : (nh : Int) ≤ 1048576) (HSe : Hid (RowI w ss ns Se)) (HSh : Hid (RowShelf w sh nh Sh)) :
    Calls Try.prog 48 #[.agg #[.int .i64 mo, .slice st nt ct, .slice ss ns cs, .slice sh nh ch], .agg #[.int .i64 x, .slice s n c]] w fun e w' => e = .returned (.bool (scnB n mo nt ns Se nh Sh)) ∧ Below w.heap.size w w' := by
  go_enter Try.func48, Try.ntmps48
  go_wp2_with fail
  refine (within_is _ _ _ _).mono ?_
  rintro e w1 ⟨rfl, rfl⟩
  have HE : Hid (scnB n mo nt ns Se nh Sh = (inB 0 7 mo && (decide (nt = n) && (decide (ns ≤ 60) && (allInB 0 ((n : Int) - 1) Se ns && shsB n nh Sh))))) := rfl
  cases h0 : inB 0 7 mo
  · have HO : Hid (scnB n mo nt ns Se nh Sh = false) := by show _ = _; rw [HE.out, h0]; rfl
    go_wp2
    go_ret
    exact ⟨ret_bool HO.out.symm, (by repeat (first | with_reducible exact Below.refl _ _ | with_reducible refine Below.setCell ?_ (by first | omega | (simp; done) | (simp; omega)) _ | with_reducible refine bDrewN ?_ _ | with_reducible refine Below.drew ?_ | with_reducible refine Below.alloc ?_ (by first | omega | (simp; done) | (simp; omega)) _))⟩
  by_cases h1 : nt = n
  case neg =>
    have h1' : ((nt : Int) == (n : Int)) = false := by simp; omega
    have h1n : (nt == n) = false := by simpa using h1
    have HO : Hid (scnB n mo nt ns Se nh Sh = false) := by show _ = _; rw [HE.out, decide_eq_false h1]; simp
    clear h1
    go_wp2
    go_ret
    exact ⟨ret_bool HO.out.symm, (by repeat (first | with_reducible exact Below.refl _ _ | with_reducible refine Below.setCell ?_ (by first | omega | (simp; done) | (simp; omega)) _ | with_reducible refine bDrewN ?_ _ | with_reducible refine Below.drew ?_ | with_reducible refine Below.alloc ?_ (by first | omega | (simp; done) | (simp; omega)) _))⟩
  subst h1
  by_cases h2 : ns ≤ 60
  case neg =>
    have h2' : decide ((ns : Int) ≤ 60) = false := decide_eq_false (by omega)
    have HO : Hid (scnB nt mo nt ns Se nh Sh = false) := by show _ = _; rw [HE.out, decide_eq_false h2]; simp
    clear h2
    go_wp2
    go_ret
    exact ⟨ret_bool HO.out.symm, (by repeat (first | with_reducible exact Below.refl _ _ | with_reducible refine Below.setCell ?_ (by first | omega | (simp; done) | (simp; omega)) _ | with_reducible refine bDrewN ?_ _ | with_reducible refine Below.drew ?_ | with_reducible refine Below.alloc ?_ (by first | omega | (simp; done) | (simp; omega)) _))⟩
  have h2' : (ns : Int) ≤ 60 := by omega
  go_wp2_with fail
  refine (allWithin_any ss ns cs Se _ _ _ hns (HSe.out.below (by repeat (first | with_reducible exact Below.refl _ _ | with_reducible refine Below.setCell ?_ (by first | omega | (simp; done) | (simp; omega)) _ | with_reducible refine bDrewN ?_ _ | with_reducible refine Below.drew ?_ | with_reducible refine Below.alloc ?_ (by first | omega | (simp; done) | (simp; omega)) _)))).mono ?_
  rintro e w1 ⟨rfl, rfl⟩
  cases h3 : allInB 0 ((nt : Int) - 1) Se ns
  · have HO : Hid (scnB nt mo nt ns Se nh Sh = false) := by show _ = _; rw [HE.out, h3]; simp
    go_wp2
    go_ret
    exact ⟨ret_bool HO.out.symm, (by repeat (first | with_reducible exact Below.refl _ _ | with_reducible refine Below.setCell ?_ (by first | omega | (simp; done) | (simp; omega)) _ | with_reducible refine bDrewN ?_ _ | with_reducible refine Below.drew ?_ | with_reducible refine Below.alloc ?_ (by first | omega | (simp; done) | (simp; omega)) _))⟩
  have HO : Hid (scnB nt mo nt ns Se nh Sh = shsB nt nh Sh) := by show _ = _; rw [HE.out, h0, h3, decide_eq_true h2]; simp
  go_wp2_with fail
  refine (shelvesOk_any nt sh nh ch Sh _ hnh (HSh.out.below (by repeat (first | with_reducible exact Below.refl _ _ | with_reducible refine Below.setCell ?_ (by first | omega | (simp; done) | (simp; omega)) _ | with_reducible refine bDrewN ?_ _ | with_reducible refine Below.drew ?_ | with_reducible refine Below.alloc ?_ (by first | omega | (simp; done) | (simp; omega)) _)))).mono ?_
  rintro e w2 ⟨rfl, h4⟩
  have B2 : Below w.heap.size w w2 := Below.trans (by repeat (first | with_reducible exact Below.refl _ _ | with_reducible refine Below.setCell ?_ (by first | omega | (simp; done) | (simp; omega)) _ | with_reducible refine bDrewN ?_ _ | with_reducible refine Below.drew ?_ | with_reducible refine Below.alloc ?_ (by first | omega | (simp; done) | (simp; omega)) _)) (h4.mono (by first | omega | (simp; done) | (simp; omega)))
  clear h4
  go_wp2
  go_ret
  exact ⟨ret_bool HO.out.symm, B2⟩
set_option maxRecDepth 20000 in
set_option maxHeartbeats 4000000 in
theorem l21Scan_any (x : Int) (s : Option Addr) (n c : Nat) (V : Nat → Int × Int × Int × Bool × Int) (mo : Int) (st : Option Addr) (nt ct : Nat) (Th : Nat → Bool) (ss : Option Addr) (ns cs : Nat) (Se : Nat → Int) (sh : Option Addr) (nh ch : Nat) (Sh : Nat → Int × Int) (w : World) (hn : (n : Int) ≤ 1048576) (hns : (ns : Int) ≤ 1048576) (hnh : (nh : Int) ≤ 1048576) (HSe : Hid (RowI w ss ns Se)) (HSh : Hid (RowShelf w sh nh Sh)) :
    Calls Try.prog 64 #[.agg #[.int .i64 x, .slice s n c], .agg #[.int .i64 mo, .slice st nt ct, .slice ss ns cs, .slice sh nh ch]] w fun e w' => e = .returned (.bool (scnB n mo nt ns Se nh Sh)) ∧ Below w.heap.size w w' := by
  have HE : Hid (scnB n mo nt ns Se nh Sh = (inB 0 7 mo && (decide (nt = n) && (decide (ns ≤ 60) && (allInB 0 ((n : Int) - 1) Se ns && shsB n nh Sh))))) := rfl
  go_enter Try.func64, Try.ntmps64
  go_wp2_with fail
  refine (l1In_is _ _ _ _).mono ?_
  rintro e w1 ⟨rfl, rfl⟩
  cases h0 : inB 0 7 mo
  · have HO : Hid (scnB n mo nt ns Se nh Sh = false) := by show _ = _; rw [HE.out, h0]; rfl
    go_wp2
    go_ret
    exact ⟨ret_bool HO.out.symm, (by repeat (first | with_reducible exact Below.refl _ _ | with_reducible refine Below.setCell ?_ (by first | omega | (simp; done) | (simp; omega)) _ | with_reducible refine bDrewN ?_ _ | with_reducible refine Below.drew ?_ | with_reducible refine Below.alloc ?_ (by first | omega | (simp; done) | (simp; omega)) _))⟩
  by_cases h1 : nt = n
  case neg =>
    have h1' : ((nt : Int) != (n : Int)) = true := by simp; omega
    have h1n : (nt != n) = true := by simpa using h1
    have HO : Hid (scnB n mo nt ns Se nh Sh = false) := by show _ = _; rw [HE.out, decide_eq_false h1]; simp
    clear h1
    go_wp2
    go_ret
    exact ⟨ret_bool HO.out.symm, (by repeat (first | with_reducible exact Below.refl _ _ | with_reducible refine Below.setCell ?_ (by first | omega | (simp; done) | (simp; omega)) _ | with_reducible refine bDrewN ?_ _ | with_reducible refine Below.drew ?_ | with_reducible refine Below.alloc ?_ (by first | omega | (simp; done) | (simp; omega)) _))⟩
  subst h1
  by_cases h2 : ns ≤ 60
  case neg =>
    have h2' : decide ((60 : Int) < (ns : Int)) = true := decide_eq_true (by omega)
    have HO : Hid (scnB nt mo nt ns Se nh Sh = false) := by show _ = _; rw [HE.out, decide_eq_false h2]; simp
    clear h2
    go_wp2
    go_ret
    exact ⟨ret_bool HO.out.symm, (by repeat (first | with_reducible exact Below.refl _ _ | with_reducible refine Below.setCell ?_ (by first | omega | (simp; done) | (simp; omega)) _ | with_reducible refine bDrewN ?_ _ | with_reducible refine Below.drew ?_ | with_reducible refine Below.alloc ?_ (by first | omega | (simp; done) | (simp; omega)) _))⟩
  have h2' : decide ((60 : Int) < (ns : Int)) = false := decide_eq_false (by omega)
  by_cases h5 : nh ≤ 60
  case neg =>
    have h5' : decide ((60 : Int) < (nh : Int)) = true := decide_eq_true (by omega)
    have HO : Hid (scnB nt mo nt ns Se nh Sh = false) := by show _ = _; rw [HE.out, show shsB nt nh Sh = false from (by unfold shsB; rw [decide_eq_false h5]; rfl)]; simp
    clear h5
    go_wp2
    go_ret
    exact ⟨ret_bool HO.out.symm, (by repeat (first | with_reducible exact Below.refl _ _ | with_reducible refine Below.setCell ?_ (by first | omega | (simp; done) | (simp; omega)) _ | with_reducible refine bDrewN ?_ _ | with_reducible refine Below.drew ?_ | with_reducible refine Below.alloc ?_ (by first | omega | (simp; done) | (simp; omega)) _))⟩
  have h5' : decide ((60 : Int) < (nh : Int)) = false := decide_eq_false (by omega)
  have hns2 : (ns : Int) ≤ 60 := by omega
  have hnh2 : (nh : Int) ≤ 60 := by omega
  have HF : Hid (scnB nt mo nt ns Se nh Sh = (allInB 0 ((nt : Int) - 1) Se ns && shsB nt nh Sh)) := by show _ = _; rw [HE.out, h0, decide_eq_true h2]; simp
  obtain ⟨l1, hl1⟩ : ∃ l1, (nt : Int) - 1 = l1 := ⟨_, rfl⟩
  have HL : Hid ((nt : Int) - 1 = l1) := hl1
  rw [hl1] at HF
  have wl : IntKind.i64.wrap ((nt : Int) - 1) = l1 := by rw [IntKind.wrap_i64]; omega
  clear HE h0 h2 h5
  go_upto_region 4 with fail
  obtain ⟨wa, hwa⟩ : ∃ wa, wa = (w.alloc (.cells #[.int .i64 x, .slice s nt c] 26)).alloc (.cells #[.int .i64 mo, .slice st nt ct, .slice ss ns cs, .slice sh nh ch] 39) := ⟨_, rfl⟩
  rw [← hwa]
  have k2 : wa.cell? ⟨w.heap.size + 1, 2, none⟩ = some (.slice ss ns cs) := by rw [hwa]; simp [go_sem]
  have k3 : wa.cell? ⟨w.heap.size + 1, 3, none⟩ = some (.slice sh nh ch) := by rw [hwa]; simp [go_sem]
  have B0 : Below w.heap.size w wa := by rw [hwa]; exact (by repeat (first | with_reducible exact Below.refl _ _ | with_reducible refine Below.setCell ?_ (by first | omega | (simp; done) | (simp; omega)) _ | with_reducible refine bDrewN ?_ _ | with_reducible refine Below.drew ?_ | with_reducible refine Below.alloc ?_ (by first | omega | (simp; done) | (simp; omega)) _))
  clear hwa
  first
    | rw [hl1]
    | skip
  go_wp2_with fail
  go_loopw [6] (fun i wr => ∃ k : Nat, k ≤ ns ∧ i = .int .i64 k ∧ Hid (∀ j, j < k → 0 ≤ Se j ∧ Se j ≤ l1) ∧ wr = wa) (fun i _ => ns - (intOf i).toNat)
  case atStart => exact ⟨0, Nat.zero_le _, rfl, fun j hj => by omega, rfl⟩
  case round =>
    obtain ⟨k, hk, rfl, HP, rfl⟩ := hrel
    by_cases h1 : k < ns
    · obtain ⟨g, o, rfl, hg, x0⟩ := HSe.out k h1
      have d0 := (B0.cell (p := ⟨g, o + k, none⟩) hg).trans x0
      have k1 : (k : Int) < (ns : Int) := by omega
      by_cases q : 0 ≤ Se k ∧ Se k ≤ l1
      · have HN : Hid (∀ j, j < k + 1 → 0 ≤ Se j ∧ Se j ≤ l1) := ball_succ HP.out q
        go_wp2_with fail
        refine (l1In_yes _ _ _ _ q.1 q.2).mono ?_
        rintro e w2 ⟨rfl, rfl⟩
        go_wp2
        go_roundw
        case rel => exact ⟨k + 1, by omega, by go_num, HN.out, by first | rfl | trivial⟩
        case measure => first | (simp [intOf]; done) | (simp [intOf]; omega)
      · have HO : Hid (scnB nt mo nt ns Se nh Sh = false) := by
          show _ = _
          rw [HF.out, show allInB 0 l1 Se ns = false from decide_eq_false fun h => q (h k h1)]
          rfl
        go_wp2_with fail
        refine (l1In_no _ _ _ _ (by omega)).mono ?_
        rintro e w2 ⟨rfl, rfl⟩
        go_wp2
        go_ret
        exact ⟨ret_bool HO.out.symm, B0⟩
    · obtain rfl : k = ns := by omega
      have HF2 : Hid (scnB nt mo nt k Se nh Sh = shsB nt nh Sh) := by show _ = _; rw [HF.out, show allInB 0 l1 Se k = true from decide_eq_true HP.out]; rfl
      clear hk h1
      rename World => wc
      go_wp2_with fail
      go_loopw [7] (fun i wr => ∃ q : Nat, q ≤ nh ∧ i = .int .i64 q ∧ Hid (∀ j, j < q → shfB nt (Sh j) = true) ∧ wr = wc) (fun i _ => nh - (intOf i).toNat)
      case atStart => exact ⟨0, Nat.zero_le _, rfl, fun j hj => by omega, rfl⟩
      case round =>
        obtain ⟨q, hq, rfl, HQ, rfl⟩ := hrel
        by_cases h1 : q < nh
        · obtain ⟨g, o, rfl, hg, c0, c1⟩ := HSh.out q h1
          replace c0 := (B0.cell (p := ⟨g, o + q * 2, none⟩) hg).trans c0
          replace c1 := (B0.cell (p := ⟨g, o + q * 2 + 1, none⟩) hg).trans c1
          obtain ⟨⟨a, t⟩, hV⟩ : ∃ z, Sh q = z := ⟨_, rfl⟩
          rw [hV] at c0 c1
          simp only at c0 c1
          have HV : Hid (shfB nt (Sh q) = (inB 0 l1 a && inB 1 1000 t)) := by show _ = _; rw [hV, ← HL.out]; rfl
          have k1 : (q : Int) < (nh : Int) := by omega
          clear hV hg
          go_wp2_with fail
          refine (l1In_is _ _ _ _).mono ?_
          rintro e w1 ⟨rfl, rfl⟩
          cases e0 : inB 0 l1 a
          · have HO : Hid (scnB nt mo nt k Se nh Sh = false) := HF2.out.trans (shs_no h1 (by rw [HV.out, e0]; rfl))
            go_wp2
            go_ret
            exact ⟨ret_bool HO.out.symm, B0⟩
          go_wp2_with fail
          refine (l1In_is _ _ _ _).mono ?_
          rintro e w1 ⟨rfl, rfl⟩
          cases e1 : inB 1 1000 t
          · have HO : Hid (scnB nt mo nt k Se nh Sh = false) := HF2.out.trans (shs_no h1 (by rw [HV.out, e0, e1]; rfl))
            go_wp2
            go_ret
            exact ⟨ret_bool HO.out.symm, B0⟩
          have HK : Hid (shfB nt (Sh q) = true) := by show _ = _; rw [HV.out, e0, e1]; rfl
          go_wp2
          go_roundw
          case rel => exact ⟨q + 1, by omega, by go_num, ball_succ HQ.out HK.out, by first | rfl | trivial⟩
          case measure => first | (simp [intOf]; done) | (simp [intOf]; omega)
        · obtain rfl : q = nh := by omega
          have HO : Hid (scnB nt mo nt k Se q Sh = true) := HF2.out.trans (by unfold shsB; rw [decide_eq_true HQ.out, decide_eq_true (by omega : q ≤ 60)]; rfl)
          go_wp2
          go_ret
          exact ⟨ret_bool HO.out.symm, B0⟩
end Go.Proofs.Ytlbbdifmjdpfiaa
