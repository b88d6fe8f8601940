/-
What is proved: the greatest row of jobs, as the specification says it.
-/
import Derived.Test.YtfhbkfdfggaomaaDoorCrI
import Derived.Deep.RegionHeld3
import Derived.Deep.DeepCutAuto
import Derived.BigQuiet
namespace Go.Proofs.YtfhbkfdfggaomaaDoor
set_option maxRecDepth 40000
open Go.ChangeShapes Go.WideShapes Go.ChangeAt Go.RowKit
set_option linter.unusedVariables false
set_option linter.unusedSimpArgs false

def endU (n : Nat) (X : Nat → Int) (K : Nat → Nat) (V : Nat → Nat → Int) (j : Nat) : Int := crT X K V n j + X j
set_option maxRecDepth 20000 in
set_option maxHeartbeats 8000000 in
theorem specCritical_any (s : Option Addr) (n c : Nat) (X : Nat → Int) (K : Nat → Nat) (V : Nat → Nat → Int) (w : World) (hn : (n : Int) ≤ 1048576) (HK : Hid (∀ i, i < n → (K i : Int) ≤ 1048576)) (HR : Hid (RowJbs w s n X K V)) :
    Calls Tryd.prog 38 #[.slice s n c] w fun e w' => e = .returned (.int .i64 (criV n X K V)) ∧ Below w.heap.size w w' := by
  go_enter Tryd.func38, Tryd.ntmps38
  go_wp2_with fail
  refine (l25Jobs_any s n c X K V _ hn HK HR).mono ?_
  rintro e w1 ⟨rfl, h1⟩
  have B1 : Below w.heap.size w w1 := h1
  clear h1
  cases hc : jobsB n X K V
  · have HO : Hid (criV n X K V = -1) := cri_no hc
    clear hc
    go_wp2
    go_ret
    exact ⟨ret_int HO.out.symm, B1⟩
  have HO : Hid (criV n X K V = lastF X (crT X K V n) n) := cri_yes hc
  have HJ : Hid (∀ j, j < n → (1 ≤ X j ∧ X j ≤ 1000) ∧ (∀ i, i < K j → 0 ≤ V j i ∧ V j i < (j : Int))) := job_good hc
  have HI : Hid (∀ k, k ≤ n → ∀ j, 0 ≤ crT X K V k j ∧ crT X K V k j ≤ 1000 * (j : Int)) := crT_in (jobs_yes hc).2
  have n4 := (jobs_yes hc).1
  have n5 : (n : Int) ≤ 40 := by omega
  have HB1 : Hid (Below w.heap.size w w1) := B1
  have zw : w.heap.size ≤ w1.heap.size := B1.size
  clear hc B1
  go_wp2_with fail
  go_loopw [3, 4, 5] (fun v m i wr => ∃ k : Nat, k ≤ n ∧ i = .int .i64 k ∧ m = .int .i64 (lastF X (crT X K V k) k) ∧ Hid (MadeI w1.heap.size w1 wr v k (endU n X K V))) (fun _ _ i _ => n - (intOf i).toNat)
  case atStart => exact ⟨0, Nat.zero_le _, rfl, rfl, made_lit _ _ (Nat.le_refl _)⟩
  case round =>
    rename_i u3 _ _
    obtain ⟨k, hk, rfl, rfl, HM⟩ := hrel
    have hB : Below w.heap.size w wr := HB1.out.trans (HM.out.2.mono zw)
    have zr : w1.heap.size ≤ wr.heap.size := HM.out.2.size
    have HLI : Hid (0 ≤ lastF X (crT X K V k) k ∧ lastF X (crT X K V k) k ≤ 100000) := last_in (by decide) k (fun i hi => by have := HI.out k hk i; have := (HJ.out i (by omega)).1; omega)
    have lb := HLI.out
    by_cases h1 : k < n
    · obtain ⟨g, o, a, d, rfl, zg, c0, c1, hr⟩ := HR.out k h1
      have k1 : (k : Int) < (n : Int) := by omega
      have Hc0 : Hid (w.cell? ⟨g, o + k * 2, none⟩ = some (.int .i64 (X k))) := c0
      replace c0 := (hB.cell (p := ⟨g, o + k * 2, none⟩) zg).trans c0
      replace c1 := (hB.cell (p := ⟨g, o + k * 2 + 1, none⟩) zg).trans c1
      have HLN : Hid (lastF X (crT X K V (k + 1)) (k + 1) = mxI (lastF X (crT X K V k) k) (crT X K V (k + 1) k + X k)) := by
        show mxI _ _ = _
        rw [last_same (B' := crT X K V k) k (fun i hi => crT_old X K V (by omega))]
      have HUK : Hid (endU n X K V k = crT X K V (k + 1) k + X k) := by
        show crT X K V n k + X k = _
        rw [crT_at X K V (k := k + 1) (by omega) (by omega)]
      have HNW : Hid (crT X K V (k + 1) k = rdyF X (crT X K V k) (V k) (K k)) := crT_new X K V k
      have HUO : Hid (∀ j, j < k → endU n X K V j = crT X K V k j + X j) := fun j hj => by
        show crT X K V n j + X j = _
        rw [crT_at X K V (k := k) hk hj]
      have hxb := (HJ.out k h1).1
      have hKb := HK.out k h1
      have HVK : Hid (∀ i, i < K k → 0 ≤ V k i ∧ V k i < (k : Int)) := (HJ.out k h1).2
      have HRB : Hid (∀ j, j ≤ K k → 0 ≤ rdyF X (crT X K V k) (V k) j ∧ rdyF X (crT X K V k) (V k) j ≤ 41000) := fun j hj => rdy_in (by decide) j (fun i hi => by
        have q := HVK.out i (by omega)
        have := HI.out k hk (V k i).toNat
        have := (HJ.out (V k i).toNat (by omega)).1
        omega)
      have HEB : Hid (∀ j : Nat, j < k → 0 ≤ crT X K V k j + X j ∧ crT X K V k j + X j ≤ 41000) := fun j hj => by
        have := HI.out k hk j
        have := (HJ.out j (by omega)).1
        omega
      obtain ⟨x, hx⟩ : ∃ x, X k = x := ⟨_, rfl⟩
      obtain ⟨m, hm⟩ : ∃ m, K k = m := ⟨_, rfl⟩
      rw [hx] at c0 hxb HLN HUK Hc0
      rw [hm] at c1 hr hKb HVK HRB HNW
      have HRI : Hid (RowI w a m (V k)) := hr
      obtain ⟨L, hL⟩ : ∃ L, lastF X (crT X K V k) k = L := ⟨_, rfl⟩
      rw [hL] at HLN lb ⊢
      obtain ⟨s', cap, hv, hO⟩ := made_own HM.out
      subst hv
      have HOW : Hid (OwnI w1.heap.size wr s' k (endU n X K V)) := hO
      have HBr : Hid (Below w.heap.size w wr) := hB
      have zg2 : g < wr.heap.size := Nat.lt_of_lt_of_le zg hB.size
      clear hx hm hL hr hO hB HLI
      go_wp2_with fail
      go_loopw [6, 7] (fun f i wq => ∃ j : Nat, j ≤ m ∧ i = .int .i64 j ∧ f = .int .i64 (rdyF X (crT X K V k) (V k) j) ∧ wq = wr) (fun _ i _ => m - (intOf i).toNat)
      case atStart => exact ⟨0, Nat.zero_le _, rfl, rfl, rfl⟩
      case round =>
        obtain ⟨j, hj, rfl, rfl, rfl⟩ := hrel
        have sb := HRB.out j hj
        by_cases h2 : j < m
        · obtain ⟨h, i, rfl, zh, d0⟩ := HRI.out j h2
          have q := HVK.out j h2
          replace d0 := (HBr.out.cell (p := ⟨h, i + j, none⟩) zh).trans d0
          have HS2 : Hid (rdyF X (crT X K V k) (V k) (j + 1) = mxI (rdyF X (crT X K V k) (V k) j) (crT X K V k (V k j).toNat + X (V k j).toNat)) := rfl
          obtain ⟨v, hv⟩ : ∃ v : Nat, V k j = (v : Int) := ⟨(V k j).toNat, by omega⟩
          rw [hv] at d0 q HS2
          have vk : v < k := by omega
          have HS3 : Hid (rdyF X (crT X K V k) (V k) (j + 1) = mxI (rdyF X (crT X K V k) (V k) j) (crT X K V k v + X v)) := by show _ = _; simpa using HS2.out
          obtain ⟨b, rfl, -, zb, e0, -⟩ := HOW.out v vk
          rw [HUO.out v vk] at e0
          have eb := HEB.out v vk
          obtain ⟨E, hE⟩ : ∃ E, crT X K V k v + X v = E := ⟨_, rfl⟩
          obtain ⟨R, hR⟩ : ∃ R, rdyF X (crT X K V k) (V k) j = R := ⟨_, rfl⟩
          rw [hE] at HS3 e0 eb
          rw [hR] at HS3 sb ⊢
          have j1 : (j : Int) < (m : Int) := by omega
          have v1 : (v : Int) < (k : Int) := by omega
          clear hv hE hR q HS2
          have HS4 : Hid (rdyF X (crT X K V k) (V k) (j + 1) = if E > R then E else R) := HS3.out
          go_wp2
          all_goals
            go_roundw
            case rel => exact ⟨j + 1, by omega, by go_num, by first | (rw [HS4.out]; done) | (rw [HS4.out]; rename_i z; simp [z]; done) | (rw [HS4.out]; rename_i z; rw [if_pos (by omega)]) | (rw [HS4.out]; rename_i z; rw [if_neg (by omega)]), by trivial⟩
            case measure => first | (simp [intOf]; done) | (simp [intOf]; omega)
        · obtain rfl : j = m := by omega
          obtain ⟨N, hN⟩ : ∃ N, rdyF X (crT X K V k) (V k) j = N := ⟨_, rfl⟩
          rw [hN] at sb HNW ⊢
          rw [HNW.out] at HLN HUK
          have HL4 : Hid (lastF X (crT X K V (k + 1)) (k + 1) = if N + x > L then N + x else L) := HLN.out
          have HOWN : Hid (wr.ownsRow w1.heap.size 2 1 (.slice s' k cap) k (vals (endU n X K V) k)) := HM.out.1
          clear hN h2 HLN
          go_wp2_with (at_builtin; refine list_i64 w1.heap.size (.slice s' k cap) k (vals (endU n X K V) k) (.tmp 41) (.tmp 49) (by rfl) (by rfl) (by rfl) (by rfl) HOWN.out (by omega) (by omega) ?_; intro g' cap' w7 hown7 hgrow7 hlt7; have HM7 : Hid (MadeI w1.heap.size w1 w7 (.slice (some ⟨g', 0, none⟩) (k + 1) cap') (k + 1) (endU n X K V)) := made_on HM.out (Below.refl _ _) zr (by rw [HUK.out]; exact hown7) hgrow7; have B7 : Below w.heap.size w w7 := HB1.out.trans (HM7.out.2.mono zw); have c7 := (B7.cell (p := ⟨g, o + k * 2, none⟩) zg).trans Hc0.out; have z7 := Nat.lt_of_lt_of_le zg B7.size; clear hown7 hgrow7 c0 c1)
          all_goals
            go_roundw
            case rel => exact ⟨k + 1, by omega, by go_num, by first | (rw [HL4.out]; done) | (rw [HL4.out]; rename_i z; simp [z]; done) | (rw [HL4.out]; rename_i z; rw [if_pos (by omega)]) | (rw [HL4.out]; rename_i z; rw [if_neg (by omega)]), HM7⟩
            case measure => first | (simp [intOf]; done) | (simp [intOf]; omega)
    · obtain rfl : k = n := by omega
      go_wp2
      go_ret
      exact ⟨ret_int HO.out.symm, hB⟩
end Go.Proofs.YtfhbkfdfggaomaaDoor
