/-
What is proved: what orders decide, as the program tells it.
-/
import Derived.Test.YtafifjodpgmiiaaDcM
import Derived.Test.YtafifjodpgmiiaaOwn
namespace Go.Proofs.Ytafifjodpgmiiaa
set_option maxRecDepth 40000
open Go.RowKit Go.Maps Go.Sort Go.Shelf
set_option linter.unusedVariables false
set_option linter.unusedSimpArgs false

theorem dec_none {V : Nat → Int} {n : Nat} (h : ∀ l, lvV V l n = 0) : decG V n 9 = 0 := decG_none V n 9 fun l a b => by
  have := h l
  unfold lvV at this
  rw [if_pos ⟨by omega, b⟩] at this
  exact this
theorem dec_least {V : Nat → Int} {n : Nat} {m : Int} (hm : lvV V m n ≠ 0) (hl : ∀ l, lvV V l n ≠ 0 → m ≤ l) : decG V n 9 = lvV V m n := by
  have h9 : 1 ≤ m ∧ m ≤ 9 := by
    unfold lvV at hm
    split at hm
    · assumption
    · exact absurd rfl hm
  have e : lvV V m n = wtL V m n := if_pos h9
  rw [e] at hm ⊢
  exact decG_at V n 9 m (by omega) h9.2 hm fun l' a b => by
    rcases Classical.em (lvV V l' n = 0) with q | q
    · unfold lvV at q
      rw [if_pos ⟨by omega, by omega⟩] at q
      exact q
    · have := hl l' q
      omega
/-- The first of the sorted keys is the least one. -/
theorem head_least {ss : List Int} {m : Int} {rest : List Int} (h : ss.mergeSort (fun x y => decide (x ≤ y)) = m :: rest) : m ∈ ss ∧ ∀ x ∈ ss, m ≤ x := by
  have tr : ∀ a b c : Int, decide (a ≤ b) = true → decide (b ≤ c) = true → decide (a ≤ c) = true := fun a b c h1 h2 => by
    simp only [decide_eq_true_eq] at *; omega
  have tt : ∀ a b : Int, (decide (a ≤ b) || decide (b ≤ a)) = true := fun a b => by
    simp only [Bool.or_eq_true, decide_eq_true_eq]; omega
  have hp := List.mergeSort_perm ss (fun x y => decide (x ≤ y))
  have hs := List.pairwise_mergeSort tr tt ss
  rw [h] at hp hs
  refine ⟨hp.mem_iff.1 (by simp), fun x hx => ?_⟩
  have hx2 := hp.mem_iff.2 hx
  rcases List.mem_cons.1 hx2 with rfl | q
  · exact Int.le_refl _
  · simpa using (List.pairwise_cons.1 hs).1 x q
set_option maxRecDepth 20000 in
set_option maxHeartbeats 2000000 in
theorem highest_any (b : Nat) (V : Nat → Int) (n : Nat) (hn : n < 1000) (w : World) (h : BookAt w b V n) :
    Calls Try.prog 45 #[.map (some b)] w fun e w' => e = .returned (.int .i64 (decG V n 9)) ∧ Below w.heap.size w w' := by
  obtain ⟨D, nn, d1, d2, d3, d4⟩ := h
  have hmem := fun x => mem_keys d1 Try.underlying2 x
  have HM : Hid (∀ x, x ∈ intKeys D ↔ lvV V x n ≠ 0) := fun x => by rw [hmem x, (d4 x).2]; simp
  have HD : Hid (∀ l, D.atKey (.int .i64 l) (.lit (.int .i64 0)) = .lit (.int .i64 (lvV V l n))) := fun l => (d4 l).1
  have HO : Hid (w.ownsMap Try.prog 2 (plainElem Try.prog 2) b nn D) := d1
  clear hmem d4 d1
  go_enter Try.func45, Try.ntmps45
  go_wp2_with fail
  refine (keys_is (some b) _).mono ?_
  rintro e w2 ⟨rfl, rfl⟩
  go_wp2_with fail
  refine (sorted_is b nn D _ w HO.out (by unfold maxLen; omega) (by omega)).mono ?_
  rintro e w3 ⟨v, ss, rfl, hP, hrow, hnil, hb⟩
  have HB : Hid (Below w.heap.size w w3) := by
    show Below _ _ _
    exact ((Below.refl _ w).alloc (Nat.le_refl _) _).trans (hb.mono (by simp))
  have HPm : Hid (∀ x, x ∈ ss ↔ lvV V x n ≠ 0) := fun x => (hP.mem_iff).trans (HM.out x)
  have HO3 : Hid (w3.ownsMap Try.prog 2 (plainElem Try.prog 2) b nn D) := owns_below HO.out HB.out
  clear hb hP HM HO
  cases hss : ss with
  | nil =>
    have hv : v = .slice none 0 0 := hnil.2 hss
    subst hv
    have e0 : decG V n 9 = 0 := dec_none fun l => by
      rcases Classical.em (lvV V l n = 0) with q | q
      · exact q
      · have := (HPm.out l).2 q
        rw [hss] at this
        cases this
    have E0 : Hid (decG V n 9 = 0) := e0
    clear hrow hnil hss e0
    go_wp2
    go_ret
    exact ⟨by rw [E0.out]; rfl, HB.out⟩
  | cons s0 st =>
    have hlen : 0 < ss.length := by rw [hss]; simp
    obtain ⟨mm, rest, hms⟩ : ∃ mm rest, ss.mergeSort (fun x y => decide (x ≤ y)) = mm :: rest := by
      cases hq : ss.mergeSort (fun x y => decide (x ≤ y)) with
      | nil =>
        have := List.length_mergeSort (le := fun x y => decide (x ≤ y)) ss
        rw [hq] at this
        simp at this
        omega
      | cons a l => exact ⟨a, l, rfl⟩
    obtain ⟨k1, k2⟩ := head_least hms
    have hm0 : lvV V mm n ≠ 0 := (HPm.out mm).1 k1
    have e0 : decG V n 9 = lvV V mm n := dec_least hm0 fun l q => k2 l ((HPm.out l).2 q)
    have h19 : 1 ≤ mm ∧ mm ≤ 9 := by
      unfold lvV at hm0
      split at hm0
      · assumption
      · exact absurd rfl hm0
    have wx : (Lit.int .i64 mm).wf = true := WalkArith.wf_i64 (by omega)
    have hkey : keyOf Try.prog 2 (.int .i64 mm) = some (.int .i64 mm) := keyOf_int_mk Try.underlying2 wx
    obtain ⟨c, hrun, hat, hwc⟩ := HO3.out.lookup_int (t := 61) book_keyed Try.underlying61 Try.underlying2 (book_zero _) hkey
    have hcv : decG V n 9 = c := by
      have := HD.out mm
      rw [hat] at this
      injection this with this
      injection this with _ this
      rw [e0]
      exact this.symm
    obtain ⟨g, cap, hv, g0, g1⟩ := hrow.form hlen
    have cg : w3.cell? ⟨g, 0, none⟩ = some (.int .i64 mm) := by
      have ho := hrow
      rw [hv] at ho
      rw [ho.cellAt 0 (by simpa using hlen), hms]
      rfl
    subst hv
    have L0 : (0 : Int) < (ss.length : Int) := by omega
    obtain ⟨L, hL⟩ : ∃ L, ss.length = L := ⟨_, rfl⟩
    rw [hL] at L0 ⊢
    have l1 : ((L : Int) == 0) = false := by simp; omega
    have HC : Hid (decG V n 9 = c) := hcv
    clear hrow hnil hss hlen hms k1 k2 hm0 e0 hat hcv hwc wx hkey hL h19 HPm HD HO3
    go_wp2
    go_ret
    exact ⟨by rw [HC.out]; rfl, HB.out⟩
end Go.Proofs.Ytafifjodpgmiiaa
