/-
What is proved: when code may be run, as the specification tells it.
-/
import Derived.Test.YtdidgbibbkhnhaaCo
namespace Go.Proofs.Ytdidgbibbkhnhaa
set_option maxRecDepth 40000
open Go.RowKit
set_option linter.unusedVariables false
set_option linter.unusedSimpArgs false

set_option maxRecDepth 20000 in
set_option maxHeartbeats 4000000 in
theorem l19Bounds_any (C I op N : Int) (w : World) (c0 : 0 ≤ C) (c1 : C ≤ 60) (i0 : 0 ≤ I) (i1 : I ≤ 60) : Calls Try.prog 33 #[.agg #[.int .i64 op, .int .i64 N], .int .i64 C, .int .i64 I] w fun e w' => e = .returned (.bool (cbB C I op N)) ∧ Below w.heap.size w w' := by
  by_cases h1 : op = 1
  · subst h1
    go_enter Try.func33, Try.ntmps33
    go_wp2_with fail
    refine (l1In_is _ _ _ _).mono ?_
    rintro e w1 ⟨rfl, rfl⟩
    go_wp2
    go_ret
    exact ⟨rfl, (by repeat (first | with_reducible exact Below.refl _ _ | with_reducible refine Below.setCell ?_ (by first | omega | (simp; done) | (simp; omega)) _ | with_reducible refine bDrewN ?_ _ | with_reducible refine Below.drew ?_ | with_reducible refine Below.alloc ?_ (by first | omega | (simp; done) | (simp; omega)) _))⟩
  by_cases h2 : op = 2
  · subst h2
    go_enter Try.func33, Try.ntmps33
    go_wp2_with fail
    refine (l1In_is _ _ _ _).mono ?_
    rintro e w1 ⟨rfl, rfl⟩
    go_wp2
    go_ret
    exact ⟨rfl, (by repeat (first | with_reducible exact Below.refl _ _ | with_reducible refine Below.setCell ?_ (by first | omega | (simp; done) | (simp; omega)) _ | with_reducible refine bDrewN ?_ _ | with_reducible refine Below.drew ?_ | with_reducible refine Below.alloc ?_ (by first | omega | (simp; done) | (simp; omega)) _))⟩
  by_cases h6 : op = 6
  · subst h6
    go_enter Try.func33, Try.ntmps33
    go_wp2_with fail
    refine (l1In_is _ _ _ _).mono ?_
    rintro e w1 ⟨rfl, rfl⟩
    go_wp2
    go_ret
    exact ⟨rfl, (by repeat (first | with_reducible exact Below.refl _ _ | with_reducible refine Below.setCell ?_ (by first | omega | (simp; done) | (simp; omega)) _ | with_reducible refine bDrewN ?_ _ | with_reducible refine Below.drew ?_ | with_reducible refine Below.alloc ?_ (by first | omega | (simp; done) | (simp; omega)) _))⟩
  by_cases h3 : op = 3
  · subst h3
    go_enter Try.func33, Try.ntmps33
    go_wp2_with fail
    refine (l1In_is _ _ _ _).mono ?_
    rintro e w1 ⟨rfl, rfl⟩
    go_wp2
    go_ret
    exact ⟨rfl, (by repeat (first | with_reducible exact Below.refl _ _ | with_reducible refine Below.setCell ?_ (by first | omega | (simp; done) | (simp; omega)) _ | with_reducible refine bDrewN ?_ _ | with_reducible refine Below.drew ?_ | with_reducible refine Below.alloc ?_ (by first | omega | (simp; done) | (simp; omega)) _))⟩
  by_cases h4 : op = 4
  · subst h4
    go_enter Try.func33, Try.ntmps33
    go_wp2_with fail
    refine (l1In_is _ _ _ _).mono ?_
    rintro e w1 ⟨rfl, rfl⟩
    go_wp2
    go_ret
    exact ⟨rfl, (by repeat (first | with_reducible exact Below.refl _ _ | with_reducible refine Below.setCell ?_ (by first | omega | (simp; done) | (simp; omega)) _ | with_reducible refine bDrewN ?_ _ | with_reducible refine Below.drew ?_ | with_reducible refine Below.alloc ?_ (by first | omega | (simp; done) | (simp; omega)) _))⟩
  by_cases h5 : op = 5
  · subst h5
    go_enter Try.func33, Try.ntmps33
    go_wp2_with fail
    refine (l1In_is _ _ _ _).mono ?_
    rintro e w1 ⟨rfl, rfl⟩
    go_wp2
    go_ret
    exact ⟨rfl, (by repeat (first | with_reducible exact Below.refl _ _ | with_reducible refine Below.setCell ?_ (by first | omega | (simp; done) | (simp; omega)) _ | with_reducible refine bDrewN ?_ _ | with_reducible refine Below.drew ?_ | with_reducible refine Below.alloc ?_ (by first | omega | (simp; done) | (simp; omega)) _))⟩
  have HO : Hid (cbB C I op N = false) := by show _ = _; unfold cbB; rw [if_neg (by omega), if_neg h3, if_neg h4, if_neg h5]
  have b1 : (op == 1) = false := by simpa using h1
  have b2 : (op == 2) = false := by simpa using h2
  have b3 : (op == 3) = false := by simpa using h3
  have b4 : (op == 4) = false := by simpa using h4
  have b5 : (op == 5) = false := by simpa using h5
  have b6 : (op == 6) = false := by simpa using h6
  clear h1 h2 h3 h4 h5 h6
  go_enter Try.func33, Try.ntmps33
  go_wp2
  go_ret
  exact ⟨ret_bool HO.out.symm, (by repeat (first | with_reducible exact Below.refl _ _ | with_reducible refine Below.setCell ?_ (by first | omega | (simp; done) | (simp; omega)) _ | with_reducible refine bDrewN ?_ _ | with_reducible refine Below.drew ?_ | with_reducible refine Below.alloc ?_ (by first | omega | (simp; done) | (simp; omega)) _))⟩
set_option maxRecDepth 20000 in
set_option maxHeartbeats 4000000 in
theorem l19Takes_any (op N : Int) (w : World) (h : op = 5 → 5 ≤ N ∧ N ≤ 16) : Calls Try.prog 26 #[.agg #[.int .i64 op, .int .i64 N]] w fun e w' => e = .returned (.tuple #[.int .i64 (tkO op N), .int .i64 (lyO op)]) ∧ Below w.heap.size w w' := by
  by_cases h5 : op = 5
  · subst h5
    have HO : Hid (((takS N).size : Int) = tkO 5 N) := tak_len (h rfl).1 (h rfl).2
    clear h
    go_enter Try.func26, Try.ntmps26
    go_wp2_with fail
    refine (l18Takes_any N _).mono ?_
    rintro e w1 ⟨rfl, rfl⟩
    go_wp2
    exact bodyPost_ret (v := .tuple #[.int .i64 ((takS N).size : Int), .int .i64 1]) (by simp [results, Try.results26, go_sem]) rfl ⟨by rw [HO.out]; rfl, (by repeat (first | with_reducible exact Below.refl _ _ | with_reducible refine Below.setCell ?_ (by first | omega | (simp; done) | (simp; omega)) _ | with_reducible refine bDrewN ?_ _ | with_reducible refine Below.drew ?_ | with_reducible refine Below.alloc ?_ (by first | omega | (simp; done) | (simp; omega)) _))⟩
  clear h
  by_cases h6 : op = 6
  · subst h6
    go_enter Try.func26, Try.ntmps26
    go_wp2
    exact bodyPost_ret (v := .tuple #[.int .i64 1, .int .i64 0]) (by simp [results, Try.results26, go_sem]) rfl ⟨rfl, (by repeat (first | with_reducible exact Below.refl _ _ | with_reducible refine Below.setCell ?_ (by first | omega | (simp; done) | (simp; omega)) _ | with_reducible refine bDrewN ?_ _ | with_reducible refine Below.drew ?_ | with_reducible refine Below.alloc ?_ (by first | omega | (simp; done) | (simp; omega)) _))⟩
  have HO : Hid (tkO op N = 0 ∧ lyO op = 1) := ⟨by unfold tkO; rw [if_neg h5, if_neg h6], by unfold lyO; rw [if_neg h6]⟩
  have b5 : (op == 5) = false := by simpa using h5
  have b6 : (op == 6) = false := by simpa using h6
  clear h5 h6
  go_enter Try.func26, Try.ntmps26
  go_wp2
  exact bodyPost_ret (v := .tuple #[.int .i64 0, .int .i64 1]) (by simp [results, Try.results26, go_sem]) rfl ⟨by rw [HO.out.1, HO.out.2], (by repeat (first | with_reducible exact Below.refl _ _ | with_reducible refine Below.setCell ?_ (by first | omega | (simp; done) | (simp; omega)) _ | with_reducible refine bDrewN ?_ _ | with_reducible refine Below.drew ?_ | with_reducible refine Below.alloc ?_ (by first | omega | (simp; done) | (simp; omega)) _))⟩
set_option maxRecDepth 20000 in
set_option maxHeartbeats 8000000 in
theorem specCodeOk_any (s : Option Addr) (n c : Nat) (V : Nat → Int) (C I : Int) (w : World) (hn : (n : Int) ≤ 1048576) (HR : Hid (RowI w s (n * 2) V)) :
    Calls Try.prog 10 #[.slice s n c, .int .i64 C, .int .i64 I] w fun e w' => e = .returned (.bool (codeB n V C I)) ∧ Below w.heap.size w w' := by
  by_cases n5 : 500 < n
  · have HO : Hid (codeB n V C I = false) := code_far (by omega)
    have b1 : (500 : Int) < (n : Int) := by omega
    go_enter Try.func10, Try.ntmps10
    go_wp2
    go_ret
    exact ⟨ret_bool HO.out.symm, Below.refl _ _⟩
  have b1 : decide ((500 : Int) < (n : Int)) = false := decide_eq_false (by omega)
  cases hC : inB 0 60 C
  · have HO : Hid (codeB n V C I = false) := code_c hC
    go_enter Try.func10, Try.ntmps10
    go_wp2_with fail
    refine (l1In_is _ _ _ _).mono ?_
    rintro e w1 ⟨rfl, rfl⟩
    rw [hC]
    go_wp2
    go_ret
    exact ⟨ret_bool HO.out.symm, Below.refl _ _⟩
  cases hI : inB 0 60 I
  · have HO : Hid (codeB n V C I = false) := code_i hI
    go_enter Try.func10, Try.ntmps10
    go_wp2_with fail
    refine (l1In_is _ _ _ _).mono ?_
    rintro e w1 ⟨rfl, rfl⟩
    rw [hC]
    go_wp2_with fail
    refine (l1In_is _ _ _ _).mono ?_
    rintro e w1 ⟨rfl, rfl⟩
    rw [hI]
    go_wp2
    go_ret
    exact ⟨ret_bool HO.out.symm, Below.refl _ _⟩
  have cC := inB_yes hC
  obtain ⟨K0, rfl⟩ : ∃ K0 : Nat, C = (K0 : Int) := ⟨C.toNat, by omega⟩
  have iI := inB_yes hI
  obtain ⟨c0, c1⟩ := cC
  obtain ⟨i0, i1⟩ := iI
  have hmk := make_bools K0 (by omega)
  have HC : Hid (inB 0 60 (K0 : Int) = true) := hC
  have HI : Hid (inB 0 60 I = true) := hI
  go_enter Try.func10, Try.ntmps10
  go_wp2_with fail
  refine (l1In_is _ _ _ _).mono ?_
  rintro e w1 ⟨rfl, rfl⟩
  rw [hC]
  go_wp2_with fail
  refine (l1In_is _ _ _ _).mono ?_
  rintro e w ⟨rfl, rfl⟩
  rw [hI]
  clear hC hI
  go_wp2_with fail
  go_loopw [8, 9] (fun d i wr => ∃ k : Nat, ∃ (K : Nat → Bool) (h : Int), k ≤ n ∧ i = .int .i64 k ∧ d = .int .i64 h ∧ Hid (coK V k = (K, h)) ∧ Hid (∀ j, j < k → coJ (K0 : Int) I V j = true) ∧ Hid (BoAt w.heap.size wr K0 K) ∧ Hid (Below w.heap.size w wr)) (fun _ i _ => n - (intOf i).toNat)
  case atStart => exact ⟨0, fun _ => false, 0, Nat.zero_le _, rfl, rfl, rfl, fun j hj => by omega, bo_made w K0 4, (show Below w.heap.size w _ from (by repeat (first | with_reducible exact Below.refl _ _ | with_reducible refine Below.setCell ?_ (by first | omega | (simp; done) | (simp; omega)) _ | with_reducible refine bDrewN ?_ _ | with_reducible refine Below.drew ?_ | with_reducible refine Below.alloc ?_ (by first | omega | (simp; done) | (simp; omega)) _)))⟩
  case round =>
    obtain ⟨k, K, h, hk, rfl, rfl, HST, HA, HB, HW⟩ := hrel
    have hr := co_rng (n := n) k HA.out
    rw [HST.out] at hr
    simp only at hr
    obtain ⟨hr0, hr1⟩ := hr
    by_cases h1 : k < n
    · obtain ⟨g, o, rfl, hg, x0⟩ := HR.out (k * 2) (by omega)
      obtain ⟨g', o', e', hg1, x1⟩ := HR.out (k * 2 + 1) (by omega)
      cases e'
      have y0 : wr.cell? ⟨g, o + k * 2, none⟩ = some (.int .i64 (V (k * 2))) := (HW.out.cell (p := ⟨g, o + k * 2, none⟩) hg).trans x0
      have y1 : wr.cell? ⟨g, o + k * 2 + 1, none⟩ = some (.int .i64 (V (k * 2 + 1))) := (HW.out.cell (p := ⟨g, o + (k * 2 + 1), none⟩) hg).trans x1
      have zg : g < wr.heap.size := Nat.lt_of_lt_of_le hg HW.out.size
      have k1 : (k : Int) < (n : Int) := by omega
      obtain ⟨op, hop⟩ : ∃ op, V (k * 2) = op := ⟨_, rfl⟩
      obtain ⟨N, hN⟩ : ∃ N, V (k * 2 + 1) = N := ⟨_, rfl⟩
      rw [hop] at y0
      rw [hN] at y1
      have HCT : Hid (coJ (K0 : Int) I V k = ctB (K0 : Int) I K h op N) := by show ctB _ _ _ _ _ _ = _; rw [HST.out, hop, hN]
      have HNX : Hid (coK V (k + 1) = (nxK K op N, nxH h op N)) := by show (nxK _ _ _, nxH _ _ _) = _; rw [HST.out, hop, hN]
      clear x0 x1 hg hg1 hop hN
      go_wp2_with fail
      refine (l19Bounds_any (K0 : Int) I op N _ c0 c1 i0 i1).mono ?_
      rintro e w1 ⟨rfl, q1⟩
      obtain ⟨hc, hf⟩ := bcell q1
      have a0 := hc wr.heap.size 0 (by first | omega | (simp; done) | (simp; omega))
      have a1 := hc wr.heap.size 1 (by first | omega | (simp; done) | (simp; omega))
      simp [go_sem] at a0 a1
      have z1 : wr.heap.size < w1.heap.size := by have := q1.size; simp at this; omega
      have b2 : Below wr.heap.size wr w1 := Below.trans (by repeat (first | with_reducible exact Below.refl _ _ | with_reducible refine Below.setCell ?_ (by first | omega | (simp; done) | (simp; omega)) _ | with_reducible refine bDrewN ?_ _ | with_reducible refine Below.drew ?_ | with_reducible refine Below.alloc ?_ (by first | omega | (simp; done) | (simp; omega)) _)) (q1.mono (by first | omega | (simp; done) | (simp; omega)))
      have HB1 : Hid (BoAt w.heap.size w1 K0 K) := HB.out.below b2
      have B2 : Below w.heap.size w w1 := HW.out.trans (b2.mono HW.out.size)
      clear hc hf q1 b2 HB HW y0 y1 zg
      cases q0 : cbB (K0 : Int) I op N
      · have HO : Hid (codeB n V (K0 : Int) I = false) := code_no h1 (by rw [HCT.out]; exact ct_bounds q0)
        have B9 := B2
        go_wp2
        go_ret
        exact ⟨ret_bool HO.out.symm, (by repeat (first | with_reducible exact Below.refl _ _ | with_reducible exact B9 | with_reducible refine Below.setCell ?_ (by first | omega | (simp; done) | (simp; omega)) _ | with_reducible refine bDrewN ?_ _ | with_reducible refine Below.drew ?_ | with_reducible refine Below.alloc ?_ (by first | omega | (simp; done) | (simp; omega)) _))⟩
      have five : op = 5 → 5 ≤ N ∧ N ≤ 16 := by
        intro e
        subst e
        exact inB_yes q0
      go_wp2_with fail
      refine (l19Takes_any op N _ five).mono ?_
      rintro e w2 ⟨rfl, q2⟩
      replace a0 := (q2.cell (p := ⟨wr.heap.size, 0, none⟩) z1).trans a0
      replace a1 := (q2.cell (p := ⟨wr.heap.size, 1, none⟩) z1).trans a1
      replace z1 := Nat.lt_of_lt_of_le z1 q2.size
      have HB2 : Hid (BoAt w.heap.size w2 K0 K) := HB1.out.below q2
      replace B2 : Below w.heap.size w w2 := B2.trans (q2.mono B2.size)
      clear q2 HB1 five
      have tr := tk_rng op N
      have lr := ly_rng op
      obtain ⟨T, hT⟩ : ∃ T, tkO op N = T := ⟨_, rfl⟩
      obtain ⟨L, hL⟩ : ∃ L, lyO op = L := ⟨_, rfl⟩
      rw [hT] at tr ⊢
      rw [hL] at lr ⊢
      obtain ⟨t0, t1⟩ := tr
      obtain ⟨l0, l1⟩ := lr
      have HT : Hid (tkO op N = T ∧ lyO op = L) := ⟨hT, hL⟩
      clear hT hL
      obtain ⟨zK, fK, cK⟩ := HB2.out
      -- the tests behind
      have REST : Hid (∀ (b6 b1 : Bool), (op == 6) = b6 → (op == 1) = b1 → True) := fun _ _ _ _ => trivial
      clear REST
      by_cases o6 : op = 6
      · subst o6
        obtain ⟨n0, n1⟩ := inB_yes (show inB 0 ((K0 : Int) - 1) N = true from q0)
        obtain ⟨M, rfl⟩ : ∃ M : Nat, N = (M : Int) := ⟨N.toNat, by omega⟩
        have cM := cK M (by omega)
        have mk : (M : Int) < (K0 : Int) := by omega
        obtain ⟨eT, eL⟩ := HT.out
        have t1' : T = 1 := by rw [← eT]; rfl
        have l0' : L = 0 := by rw [← eL]; rfl
        subst t1' l0'
        clear eT eL cK t0 t1 l0 l1
        cases hM : K M
        · rw [hM] at cM
          by_cases hd : h < 1
          · have HO : Hid (codeB n V (K0 : Int) I = false) := code_no h1 (by rw [HCT.out]; unfold ctB; rw [decide_eq_false (p := tkO 6 (M : Int) ≤ h) (by rw [HT.out.1]; omega)]; simp)
            go_wp2
            go_ret
            exact ⟨ret_bool HO.out.symm, (by repeat (first | with_reducible exact Below.refl _ _ | with_reducible exact B2 | with_reducible refine Below.setCell ?_ (by first | omega | (simp; done) | (simp; omega)) _ | with_reducible refine bDrewN ?_ _ | with_reducible refine Below.drew ?_ | with_reducible refine Below.alloc ?_ (by first | omega | (simp; done) | (simp; omega)) _))⟩
          · have d1 : decide (h < 1) = false := decide_eq_false hd
            have HJ : Hid (coJ (K0 : Int) I V k = true) := by show _ = _; rw [HCT.out]; unfold ctB; rw [q0, HT.out.1, HT.out.2, Int.toNat_natCast, hM, decide_eq_true (p := (1 : Int) ≤ h) (by omega), decide_eq_true (p := h - 1 + 0 ≤ 10) (by omega)]; rfl
            have d2 : decide (10 < h - 1) = false := decide_eq_false (by omega)
            have HN2 : Hid (coK V (k + 1) = (fun j => decide (j = M) || K j, h - 1)) := by show _ = _; rw [HNX.out]; unfold nxH nxK; rw [HT.out.1, HT.out.2, if_pos rfl, Int.toNat_natCast, Int.add_zero]
            have HB3 : Hid (BoAt w.heap.size (w2.setCell ⟨w.heap.size, M, none⟩ (.bool true)) K0 (fun j => decide (j = M) || K j)) := HB2.out.set
            go_wp2
            go_roundw
            case rel => exact ⟨k + 1, _, h - 1, by omega, by go_num, by go_num, HN2.out, ballC HA.out HJ.out, HB3.out, (show Below w.heap.size w _ from (by repeat (first | with_reducible exact Below.refl _ _ | with_reducible exact B2 | with_reducible refine Below.setCell ?_ (by first | omega | (simp; done) | (simp; omega)) _ | with_reducible refine bDrewN ?_ _ | with_reducible refine Below.drew ?_ | with_reducible refine Below.alloc ?_ (by first | omega | (simp; done) | (simp; omega)) _)))⟩
            case measure => first | (simp [intOf]; done) | (simp [intOf]; omega)
        · rw [hM] at cM
          have HO : Hid (codeB n V (K0 : Int) I = false) := code_no h1 (by rw [HCT.out]; unfold ctB; rw [Int.toNat_natCast, hM]; simp)
          go_wp2
          go_ret
          exact ⟨ret_bool HO.out.symm, (by repeat (first | with_reducible exact Below.refl _ _ | with_reducible exact B2 | with_reducible refine Below.setCell ?_ (by first | omega | (simp; done) | (simp; omega)) _ | with_reducible refine bDrewN ?_ _ | with_reducible refine Below.drew ?_ | with_reducible refine Below.alloc ?_ (by first | omega | (simp; done) | (simp; omega)) _))⟩
      have b6 : (op == 6) = false := by simpa using o6
      have l1' : L = 1 := by rw [← HT.out.2]; unfold lyO; rw [if_neg o6]
      subst l1'
      by_cases hd : h < T
      case pos =>
        have HO : Hid (codeB n V (K0 : Int) I = false) := code_no h1 (by rw [HCT.out]; unfold ctB; rw [decide_eq_false (p := tkO op N ≤ h) (by rw [HT.out.1]; omega)]; simp)
        by_cases o1 : op = 1
        · subst o1
          obtain ⟨n0, n1⟩ := inB_yes (show inB 0 ((K0 : Int) - 1) N = true from q0)
          obtain ⟨M, rfl⟩ : ∃ M : Nat, N = (M : Int) := ⟨N.toNat, by omega⟩
          have cM := cK M (by omega)
          have mk : (M : Int) < (K0 : Int) := by omega
          clear cK
          cases hM : K M
          all_goals
            rw [hM] at cM
            go_wp2
            go_ret
            exact ⟨ret_bool HO.out.symm, (by repeat (first | with_reducible exact Below.refl _ _ | with_reducible exact B2 | with_reducible refine Below.setCell ?_ (by first | omega | (simp; done) | (simp; omega)) _ | with_reducible refine bDrewN ?_ _ | with_reducible refine Below.drew ?_ | with_reducible refine Below.alloc ?_ (by first | omega | (simp; done) | (simp; omega)) _))⟩
        · have b1' : (op == 1) = false := by simpa using o1
          clear cK
          go_wp2
          go_ret
          exact ⟨ret_bool HO.out.symm, (by repeat (first | with_reducible exact Below.refl _ _ | with_reducible exact B2 | with_reducible refine Below.setCell ?_ (by first | omega | (simp; done) | (simp; omega)) _ | with_reducible refine bDrewN ?_ _ | with_reducible refine Below.drew ?_ | with_reducible refine Below.alloc ?_ (by first | omega | (simp; done) | (simp; omega)) _))⟩
      case neg =>
        have d1 : decide (h < T) = false := decide_eq_false hd
        have HN2 : Hid (coK V (k + 1) = (K, h - T + 1)) := by show _ = _; rw [HNX.out]; unfold nxH nxK; rw [HT.out.1, HT.out.2, if_neg o6]
        by_cases ht : 10 < h - T + 1
        case pos =>
          have HO : Hid (codeB n V (K0 : Int) I = false) := code_no h1 (by rw [HCT.out]; unfold ctB; rw [HT.out.1, HT.out.2, decide_eq_false (p := h - T + 1 ≤ 10) (by omega)]; simp)
          by_cases o1 : op = 1
          · subst o1
            obtain ⟨n0, n1⟩ := inB_yes (show inB 0 ((K0 : Int) - 1) N = true from q0)
            obtain ⟨M, rfl⟩ : ∃ M : Nat, N = (M : Int) := ⟨N.toNat, by omega⟩
            have cM := cK M (by omega)
            have mk : (M : Int) < (K0 : Int) := by omega
            clear cK
            cases hM : K M
            all_goals
              rw [hM] at cM
              go_wp2
              go_ret
              exact ⟨ret_bool HO.out.symm, (by repeat (first | with_reducible exact Below.refl _ _ | with_reducible exact B2 | with_reducible refine Below.setCell ?_ (by first | omega | (simp; done) | (simp; omega)) _ | with_reducible refine bDrewN ?_ _ | with_reducible refine Below.drew ?_ | with_reducible refine Below.alloc ?_ (by first | omega | (simp; done) | (simp; omega)) _))⟩
          · have b1' : (op == 1) = false := by simpa using o1
            clear cK
            go_wp2
            go_ret
            exact ⟨ret_bool HO.out.symm, (by repeat (first | with_reducible exact Below.refl _ _ | with_reducible exact B2 | with_reducible refine Below.setCell ?_ (by first | omega | (simp; done) | (simp; omega)) _ | with_reducible refine bDrewN ?_ _ | with_reducible refine Below.drew ?_ | with_reducible refine Below.alloc ?_ (by first | omega | (simp; done) | (simp; omega)) _))⟩
        case neg =>
          have d2 : decide (10 < h - T + 1) = false := decide_eq_false ht
          by_cases o1 : op = 1
          · subst o1
            obtain ⟨n0, n1⟩ := inB_yes (show inB 0 ((K0 : Int) - 1) N = true from q0)
            obtain ⟨M, rfl⟩ : ∃ M : Nat, N = (M : Int) := ⟨N.toNat, by omega⟩
            have cM := cK M (by omega)
            have mk : (M : Int) < (K0 : Int) := by omega
            clear cK
            cases hM : K M
            · rw [hM] at cM
              have HO : Hid (codeB n V (K0 : Int) I = false) := code_no h1 (by rw [HCT.out]; unfold ctB; rw [Int.toNat_natCast, hM]; simp)
              go_wp2
              go_ret
              exact ⟨ret_bool HO.out.symm, (by repeat (first | with_reducible exact Below.refl _ _ | with_reducible exact B2 | with_reducible refine Below.setCell ?_ (by first | omega | (simp; done) | (simp; omega)) _ | with_reducible refine bDrewN ?_ _ | with_reducible refine Below.drew ?_ | with_reducible refine Below.alloc ?_ (by first | omega | (simp; done) | (simp; omega)) _))⟩
            · rw [hM] at cM
              have HJ : Hid (coJ (K0 : Int) I V k = true) := by show _ = _; rw [HCT.out]; unfold ctB; rw [q0, HT.out.1, HT.out.2, Int.toNat_natCast, hM, decide_eq_true (p := T ≤ h) (by omega), decide_eq_true (p := h - T + 1 ≤ 10) (by omega)]; rfl
              go_wp2
              go_roundw
              case rel => exact ⟨k + 1, _, h - T + 1, by omega, by go_num, by go_num, HN2.out, ballC HA.out HJ.out, HB2.out, B2⟩
              case measure => first | (simp [intOf]; done) | (simp [intOf]; omega)
          · have b1' : (op == 1) = false := by simpa using o1
            have HJ : Hid (coJ (K0 : Int) I V k = true) := by show _ = _; rw [HCT.out]; unfold ctB; rw [q0, HT.out.1, HT.out.2, decide_eq_false o6, decide_eq_false o1, decide_eq_true (p := T ≤ h) (by omega), decide_eq_true (p := h - T + 1 ≤ 10) (by omega)]; rfl
            clear cK
            go_wp2
            go_roundw
            case rel => exact ⟨k + 1, _, h - T + 1, by omega, by go_num, by go_num, HN2.out, ballC HA.out HJ.out, HB2.out, B2⟩
            case measure => first | (simp [intOf]; done) | (simp [intOf]; omega)
    · obtain rfl : k = n := by omega
      have HO : Hid (codeB k V (K0 : Int) I = decide (h = 0)) := by show _ = _; rw [code_end (by omega) HC.out HI.out HA.out, HST.out]
      have BX := HW.out
      go_wp2
      go_ret
      exact ⟨ret_bool (by rw [HO.out, Bool.beq_eq_decide_eq]), BX⟩
end Go.Proofs.Ytdidgbibbkhnhaa
