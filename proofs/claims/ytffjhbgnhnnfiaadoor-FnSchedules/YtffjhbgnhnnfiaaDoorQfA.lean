/-
What is proved: the greatest row of jobs, as the specification says it.
-/
import Derived.Test.YtffjhbgnhnnfiaaDoorCrI
import Derived.Deep.RegionHeld3
import Derived.Deep.DeepCutAuto
import Derived.BigQuiet
import Derived.Test.YtffjhbgnhnnfiaaDoorScR
namespace Go.Proofs.YtffjhbgnhnnfiaaDoor
set_option maxRecDepth 40000
open Go.ChangeShapes Go.WideShapes Go.ChangeAt Go.RowKit
set_option linter.unusedVariables false
set_option linter.unusedSimpArgs false

def endU (n : Nat) (X : Nat → Int) (K : Nat → Nat) (V : Nat → Nat → Int) (j : Nat) : Int := crT X K V n j + X j
set_option maxRecDepth 20000 in
set_option maxHeartbeats 8000000 in
theorem specCritical_any (s : Option Addr) (n c : Nat) (X : Nat → Int) (K : Nat → Nat) (V : Nat → Nat → Int) (w : World) (hn : (n : Int) ≤ 1048576) (HK : Hid (∀ i, i < n → (K i : Int) ≤ 1048576)) (HR : Hid (RowJbs w s n X K V)) :
    Calls Tryd.prog 9 #[.slice s n c] w fun e w' => e = .returned (.int .i64 (criV n X K V)) ∧ Below w.heap.size w w' := by
  go_enter Tryd.func9, Tryd.ntmps9
  go_wp2_with fail
  refine (l25Jobs_any s n c X K V _ hn HK HR).mono ?_
  rintro e w1 ⟨rfl, h1⟩
  have B1 : Below w.heap.size w w1 := h1
  clear h1
  cases hc : jobsB n X K V
  · have HO : Hid (criV n X K V = -1) := cri_no hc
    clear hc
    go_wp2
    go_ret
    exact ⟨ret_int HO.out.symm, B1⟩
  have HO : Hid (criV n X K V = lastF X (crT X K V n) n) := cri_yes hc
  have HJ : Hid (∀ j, j < n → (1 ≤ X j ∧ X j ≤ 1000) ∧ (∀ i, i < K j → 0 ≤ V j i ∧ V j i < (j : Int))) := job_good hc
  have HI : Hid (∀ k, k ≤ n → ∀ j, 0 ≤ crT X K V k j ∧ crT X K V k j ≤ 1000 * (j : Int)) := crT_in (jobs_yes hc).2
  have n4 := (jobs_yes hc).1
  have n5 : (n : Int) ≤ 40 := by omega
  have HB1 : Hid (Below w.heap.size w w1) := B1
  have zw : w.heap.size ≤ w1.heap.size := B1.size
  clear hc B1
  go_wp2_with fail
  go_loopw [3, 4, 5] (fun v m i wr => ∃ k : Nat, k ≤ n ∧ i = .int .i64 k ∧ m = .int .i64 (lastF X (crT X K V k) k) ∧ Hid (MadeI w1.heap.size w1 wr v k (endU n X K V))) (fun _ _ i _ => n - (intOf i).toNat)
  case atStart => exact ⟨0, Nat.zero_le _, rfl, rfl, made_lit _ _ (Nat.le_refl _)⟩
  case round =>
    rename_i u3 _ _
    obtain ⟨k, hk, rfl, rfl, HM⟩ := hrel
    have hB : Below w.heap.size w wr := HB1.out.trans (HM.out.2.mono zw)
    have zr : w1.heap.size ≤ wr.heap.size := HM.out.2.size
    have HLI : Hid (0 ≤ lastF X (crT X K V k) k ∧ lastF X (crT X K V k) k ≤ 100000) := last_in (by decide) k (fun i hi => by have := HI.out k hk i; have := (HJ.out i (by omega)).1; omega)
    have lb := HLI.out
    by_cases h1 : k < n
    · obtain ⟨g, o, a, d, rfl, zg, c0, c1, hr⟩ := HR.out k h1
      have k1 : (k : Int) < (n : Int) := by omega
      have Hc0 : Hid (w.cell? ⟨g, o + k * 2, none⟩ = some (.int .i64 (X k))) := c0
      replace c0 := (hB.cell (p := ⟨g, o + k * 2, none⟩) zg).trans c0
      replace c1 := (hB.cell (p := ⟨g, o + k * 2 + 1, none⟩) zg).trans c1
      have HLN : Hid (lastF X (crT X K V (k + 1)) (k + 1) = mxI (lastF X (crT X K V k) k) (crT X K V (k + 1) k + X k)) := by
        show mxI _ _ = _
        rw [last_same (B' := crT X K V k) k (fun i hi => crT_old X K V (by omega))]
      have HUK : Hid (endU n X K V k = crT X K V (k + 1) k + X k) := by
        show crT X K V n k + X k = _
        rw [crT_at X K V (k := k + 1) (by omega) (by omega)]
      have HNW : Hid (crT X K V (k + 1) k = rdyF X (crT X K V k) (V k) (K k)) := crT_new X K V k
      have HUO : Hid (∀ j, j < k → endU n X K V j = crT X K V k j + X j) := fun j hj => by
        show crT X K V n j + X j = _
        rw [crT_at X K V (k := k) hk hj]
      have hxb := (HJ.out k h1).1
      have hKb := HK.out k h1
      have HVK : Hid (∀ i, i < K k → 0 ≤ V k i ∧ V k i < (k : Int)) := (HJ.out k h1).2
      have HRB : Hid (∀ j, j ≤ K k → 0 ≤ rdyF X (crT X K V k) (V k) j ∧ rdyF X (crT X K V k) (V k) j ≤ 41000) := fun j hj => rdy_in (by decide) j (fun i hi => by
        have q := HVK.out i (by omega)
        have := HI.out k hk (V k i).toNat
        have := (HJ.out (V k i).toNat (by omega)).1
        omega)
      have HEB : Hid (∀ j : Nat, j < k → 0 ≤ crT X K V k j + X j ∧ crT X K V k j + X j ≤ 41000) := fun j hj => by
        have := HI.out k hk j
        have := (HJ.out j (by omega)).1
        omega
      obtain ⟨x, hx⟩ : ∃ x, X k = x := ⟨_, rfl⟩
      obtain ⟨m, hm⟩ : ∃ m, K k = m := ⟨_, rfl⟩
      rw [hx] at c0 hxb HLN HUK Hc0
      rw [hm] at c1 hr hKb HVK HRB HNW
      have HRI : Hid (RowI w a m (V k)) := hr
      obtain ⟨L, hL⟩ : ∃ L, lastF X (crT X K V k) k = L := ⟨_, rfl⟩
      rw [hL] at HLN lb ⊢
      obtain ⟨s', cap, hv, hO⟩ := made_own HM.out
      subst hv
      have HOW : Hid (OwnI w1.heap.size wr s' k (endU n X K V)) := hO
      have HBr : Hid (Below w.heap.size w wr) := hB
      have zg2 : g < wr.heap.size := Nat.lt_of_lt_of_le zg hB.size
      clear hx hm hL hr hO hB HLI
      go_wp2_with fail
      go_loopw [6, 7] (fun f i wq => ∃ j : Nat, j ≤ m ∧ i = .int .i64 j ∧ f = .int .i64 (rdyF X (crT X K V k) (V k) j) ∧ wq = wr) (fun _ i _ => m - (intOf i).toNat)
      case atStart => exact ⟨0, Nat.zero_le _, rfl, rfl, rfl⟩
      case round =>
        obtain ⟨j, hj, rfl, rfl, rfl⟩ := hrel
        have sb := HRB.out j hj
        by_cases h2 : j < m
        · obtain ⟨h, i, rfl, zh, d0⟩ := HRI.out j h2
          have q := HVK.out j h2
          replace d0 := (HBr.out.cell (p := ⟨h, i + j, none⟩) zh).trans d0
          have HS2 : Hid (rdyF X (crT X K V k) (V k) (j + 1) = mxI (rdyF X (crT X K V k) (V k) j) (crT X K V k (V k j).toNat + X (V k j).toNat)) := rfl
          obtain ⟨v, hv⟩ : ∃ v : Nat, V k j = (v : Int) := ⟨(V k j).toNat, by omega⟩
          rw [hv] at d0 q HS2
          have vk : v < k := by omega
          have HS3 : Hid (rdyF X (crT X K V k) (V k) (j + 1) = mxI (rdyF X (crT X K V k) (V k) j) (crT X K V k v + X v)) := by show _ = _; simpa using HS2.out
          obtain ⟨b, rfl, -, zb, e0, -⟩ := HOW.out v vk
          rw [HUO.out v vk] at e0
          have eb := HEB.out v vk
          obtain ⟨E, hE⟩ : ∃ E, crT X K V k v + X v = E := ⟨_, rfl⟩
          obtain ⟨R, hR⟩ : ∃ R, rdyF X (crT X K V k) (V k) j = R := ⟨_, rfl⟩
          rw [hE] at HS3 e0 eb
          rw [hR] at HS3 sb ⊢
          have j1 : (j : Int) < (m : Int) := by omega
          have v1 : (v : Int) < (k : Int) := by omega
          clear hv hE hR q HS2
          have HS4 : Hid (rdyF X (crT X K V k) (V k) (j + 1) = if E > R then E else R) := HS3.out
          go_wp2
          all_goals
            go_roundw
            case rel => exact ⟨j + 1, by omega, by go_num, by first | (rw [HS4.out]; done) | (rw [HS4.out]; rename_i z; simp [z]; done) | (rw [HS4.out]; rename_i z; rw [if_pos (by omega)]) | (rw [HS4.out]; rename_i z; rw [if_neg (by omega)]), by trivial⟩
            case measure => first | (simp [intOf]; done) | (simp [intOf]; omega)
        · obtain rfl : j = m := by omega
          obtain ⟨N, hN⟩ : ∃ N, rdyF X (crT X K V k) (V k) j = N := ⟨_, rfl⟩
          rw [hN] at sb HNW ⊢
          rw [HNW.out] at HLN HUK
          have HL4 : Hid (lastF X (crT X K V (k + 1)) (k + 1) = if N + x > L then N + x else L) := HLN.out
          have HOWN : Hid (wr.ownsRow w1.heap.size 2 1 (.slice s' k cap) k (vals (endU n X K V) k)) := HM.out.1
          clear hN h2 HLN
          go_wp2_with (at_builtin; refine list_i64 w1.heap.size (.slice s' k cap) k (vals (endU n X K V) k) (.tmp 41) (.tmp 49) (by rfl) (by rfl) (by rfl) (by rfl) HOWN.out (by omega) (by omega) ?_; intro g' cap' w7 hown7 hgrow7 hlt7; have HM7 : Hid (MadeI w1.heap.size w1 w7 (.slice (some ⟨g', 0, none⟩) (k + 1) cap') (k + 1) (endU n X K V)) := made_on HM.out (Below.refl _ _) zr (by rw [HUK.out]; exact hown7) hgrow7; have B7 : Below w.heap.size w w7 := HB1.out.trans (HM7.out.2.mono zw); have c7 := (B7.cell (p := ⟨g, o + k * 2, none⟩) zg).trans Hc0.out; have z7 := Nat.lt_of_lt_of_le zg B7.size; clear hown7 hgrow7 c0 c1)
          all_goals
            go_roundw
            case rel => exact ⟨k + 1, by omega, by go_num, by first | (rw [HL4.out]; done) | (rw [HL4.out]; rename_i z; simp [z]; done) | (rw [HL4.out]; rename_i z; rw [if_pos (by omega)]) | (rw [HL4.out]; rename_i z; rw [if_neg (by omega)]), HM7⟩
            case measure => first | (simp [intOf]; done) | (simp [intOf]; omega)
    · obtain rfl : k = n := by omega
      go_wp2
      go_ret
      exact ⟨ret_int HO.out.symm, hB⟩

open Go.ChangeShapes Go.WideShapes Go.ChangeAt Go.RowKit
set_option linter.unusedVariables false
set_option linter.unusedSimpArgs false

theorem keep3P {W W' : World} {p q : Nat} {a b c : Value} (h0 : W.cell? ⟨p, 0, none⟩ = some a) (h1 : W.cell? ⟨p, 1, none⟩ = some b) (h2 : W.cell? ⟨q, 0, none⟩ = some c) (zp : p < W.heap.size) (zq : q < W.heap.size) (hb : Below W.heap.size W W') : W'.cell? ⟨p, 0, none⟩ = some a ∧ W'.cell? ⟨p, 1, none⟩ = some b ∧ W'.cell? ⟨q, 0, none⟩ = some c := ⟨(hb.cell (p := ⟨p, 0, none⟩) zp).trans h0, (hb.cell (p := ⟨p, 1, none⟩) zp).trans h1, (hb.cell (p := ⟨q, 0, none⟩) zq).trans h2⟩
theorem pln_early {n : Nat} {X : Nat → Int} {K : Nat → Nat} {V : Nat → Nat → Int} {cr : Int} {B : Nat → Int} {j : Nat} (h : B j < rdyF X B (V j) (K j)) : plnB n X K V cr B j = false := by unfold plnB; rw [decide_eq_false (by omega)]; rfl
theorem pln_many {n : Nat} {X : Nat → Int} {K : Nat → Nat} {V : Nat → Nat → Int} {cr : Int} {B : Nat → Int} {j : Nat} (h : cr < busI X B (B j) n) : plnB n X K V cr B j = false := by unfold plnB; rw [decide_eq_false (show ¬ busI X B (B j) n ≤ cr by omega)]; simp
theorem pln_good {n : Nat} {X : Nat → Int} {K : Nat → Nat} {V : Nat → Nat → Int} {cr : Int} {B : Nat → Int} {j : Nat} (h : ¬ B j < rdyF X B (V j) (K j)) (g : ¬ cr < busI X B (B j) n) : plnB n X K V cr B j = true := by unfold plnB; rw [decide_eq_true (show rdyF X B (V j) (K j) ≤ B j by omega), decide_eq_true (show busI X B (B j) n ≤ cr by omega)]; rfl
set_option maxRecDepth 20000 in
set_option maxHeartbeats 8000000 in
theorem plan1_any (p q : Nat) (s t : Option Addr) (n c d : Nat) (X : Nat → Int) (K : Nat → Nat) (V : Nat → Nat → Int) (B : Nat → Int) (cr : Int) (k : Nat) (w : World) (hk : k < n) (hn : (n : Int) ≤ 40) (hK : (K k : Int) ≤ 1048576) (zp : p < w.heap.size) (zq : q < w.heap.size)
    (p0 : w.cell? ⟨p, 0, none⟩ = some (.slice s n c)) (p1 : w.cell? ⟨p, 1, none⟩ = some (.slice t n d)) (q0 : w.cell? ⟨q, 0, none⟩ = some (.int .i64 cr)) (HR : Hid (RowJbs w s n X K V)) (HT : Hid (RowI w t n B)) (HG : Hid (∀ j, j < n → (1 ≤ X j ∧ X j ≤ 1000) ∧ 0 ≤ B j ∧ B j ≤ 1000000000)) (HV : Hid (∀ j, j < n → ∀ i, i < K j → 0 ≤ V j i ∧ V j i < (n : Int))) (HE : Hid (ErrS w)) :
    Calls Tryd.prog 60 #[.int .i64 k, .pointer (some ⟨p, 0, none⟩), .pointer (some ⟨q, 0, none⟩)] w fun e w' => ∃ v, e = .returned v ∧ ErrV v (plnB n X K V cr B k) ∧ Below w.heap.size w w' := by
  have HCR : Hid (∀ w1, Below w.heap.size w w1 → Calls Tryd.prog 32 #[.agg #[.slice s n c, .slice t n d], .int .i64 k] w1 fun e w' => e = .returned (.int .i64 (rdyF X B (V k) (K k))) ∧ Below w1.heap.size w1 w') := fun w1 hb => readyAt_any s t n c d X K V B k w1 hk hn hK (HV.out k hk) (HR.out.below hb) (HT.out.below hb) HG
  have HCU : Hid (∀ w1, Below w.heap.size w w1 → Calls Tryd.prog 59 #[.agg #[.slice s n c, .slice t n d], .int .i64 (B k)] w1 fun e w' => e = .returned (.int .i64 (busI X B (B k) n)) ∧ Below w1.heap.size w1 w') := fun w1 hb => underWay_any s t n c d X K V B (B k) w1 hn (HR.out.below hb) (HT.out.below hb) HG
  have HRB : Hid (0 ≤ rdyF X B (V k) (K k) ∧ rdyF X B (V k) (K k) ≤ 1000001000) := rdy_in (by decide) _ (fun i hi => by
    have := HV.out k hk i hi
    have := HG.out (V k i).toNat (by omega)
    omega)
  have hbn := (bus_in (X := X) (B := B) (t := B k) n).2.2
  obtain ⟨-, -, -, -, ⟨ze, te, xe, ge⟩, zc, tc, xc, gc⟩ := HE.out
  obtain ⟨h, i, rfl, zh, d0⟩ := HT.out k hk
  have HEA : Hid (B k < rdyF X B (V k) (K k) → plnB n X K V cr B k = false) := pln_early
  have HMA : Hid (cr < busI X B (B k) n → plnB n X K V cr B k = false) := pln_many
  have HGO : Hid (¬ B k < rdyF X B (V k) (K k) → ¬ cr < busI X B (B k) n → plnB n X K V cr B k = true) := pln_good
  have hyb := (HG.out k hk).2
  have hrb := HRB.out
  obtain ⟨y, hy⟩ : ∃ y, B k = y := ⟨_, rfl⟩
  obtain ⟨r, hr⟩ : ∃ r, rdyF X B (V k) (K k) = r := ⟨_, rfl⟩
  rw [hy] at d0 HCU HEA HMA HGO hyb hbn
  rw [hr] at HCR HEA HGO hrb
  obtain ⟨u, hu⟩ : ∃ u, busI X B y n = u := ⟨_, rfl⟩
  rw [hu] at HCU HMA HGO hbn
  have k1 : (k : Int) < (n : Int) := by omega
  clear HR HT HG HV HE HRB hy hr hu
  go_enter Tryd.func60, Tryd.ntmps60
  go_wp2_with fail
  refine (HCR.out _ (Below.refl _ _)).mono ?_
  rintro e w1 ⟨rfl, h1⟩
  have HB1 : Hid (Below w.heap.size w w1) := h1
  replace ge := (h1.cell (p := ⟨3, 0, none⟩) ze).trans ge
  replace gc := (h1.cell (p := ⟨4, 0, none⟩) zc).trans gc
  replace p0 := (h1.cell (p := ⟨p, 0, none⟩) zp).trans p0
  replace p1 := (h1.cell (p := ⟨p, 1, none⟩) zp).trans p1
  replace q0 := (h1.cell (p := ⟨q, 0, none⟩) zq).trans q0
  replace ze := Nat.lt_of_lt_of_le ze h1.size
  replace zc := Nat.lt_of_lt_of_le zc h1.size
  replace zp := Nat.lt_of_lt_of_le zp h1.size
  replace zq := Nat.lt_of_lt_of_le zq h1.size
  clear h1 d0
  by_cases t0 : y < r
  · have HO : Hid (plnB n X K V cr B k = false) := HEA.out (by omega)
    have B1 := HB1.out
    go_wp2
    go_ret
    exact ⟨_, rfl, Or.inr ⟨HO.out, _, _, rfl⟩, (by repeat (first | with_reducible exact Below.refl _ _ | with_reducible exact B1 | with_reducible refine Below.setCell ?_ (by first | omega | (simp; done) | (simp; omega)) _ | with_reducible refine bDrewN ?_ _ | with_reducible refine Below.drew ?_ | with_reducible refine Below.alloc ?_ (by first | omega | (simp; done) | (simp; omega)) _))⟩
  by_cases t1 : cr < u
  · have HO : Hid (plnB n X K V cr B k = false) := HMA.out t1
    have t1b : decide (cr < u) = true := decide_eq_true t1
    go_upto_region 4 with fail
    refine wp_region_held_drew (S := fun w' => w'.cell? ⟨p, 0, none⟩ = some (.slice s n c) ∧ w'.cell? ⟨p, 1, none⟩ = some (.slice (some ⟨h, i, none⟩) n d) ∧ w'.cell? ⟨q, 0, none⟩ = some (.int .i64 cr)) (by kernel_rfl) ?_ (fun hHeld => ?_)
    · exact keep3P p0 p1 q0 zp zq (by repeat (first | with_reducible exact Below.refl _ _ | with_reducible refine Below.setCell ?_ (by first | omega | (simp; done) | (simp; omega)) _ | with_reducible refine bDrewN ?_ _ | with_reducible refine Below.drew ?_ | with_reducible refine Below.alloc ?_ (by first | omega | (simp; done) | (simp; omega)) _))
    refine wpAnyH_take (i := 0) (v := .agg #[.slice s n c, .slice (some ⟨h, i, none⟩) n d]) rfl (by kernel_rfl) (by kernel_rfl) (by kernel_rfl) (fun _ _ _ h => h) (Or.inl ⟨by kernel_rfl, ?_⟩) hHeld ?_
    · intro w' hSw
      obtain ⟨s0, s1, s2⟩ := hSw
      first | (go_simp; done) | (go_simp; with_reducible rfl) | (go_simp; rw [IntKind.wrap_i64]; omega) | (go_simp; omega)
    simp only [Act.put, List.setIfInBounds_toArray, List.set_cons_zero, List.set_cons_succ]
    refine wpAnyH_take (i := 1) (v := .int .i64 y) rfl (by kernel_rfl) (by kernel_rfl) (by kernel_rfl) (fun _ _ _ h => h) (Or.inl ⟨by kernel_rfl, ?_⟩) hHeld ?_
    · intro w' hSw
      obtain ⟨s0, s1, s2⟩ := hSw
      first | (go_simp; done) | (go_simp; with_reducible rfl) | (go_simp; rw [IntKind.wrap_i64]; omega) | (go_simp; omega)
    simp only [Act.put, List.setIfInBounds_toArray, List.set_cons_zero, List.set_cons_succ]
    refine wpAnyH_take (i := 3) (v := .int .i64 cr) rfl (by kernel_rfl) (by kernel_rfl) (by kernel_rfl) (fun _ _ _ h => h) (Or.inl ⟨by kernel_rfl, ?_⟩) hHeld ?_
    · intro w' hSw
      obtain ⟨s0, s1, s2⟩ := hSw
      first | (go_simp; done) | (go_simp; with_reducible rfl) | (go_simp; rw [IntKind.wrap_i64]; omega) | (go_simp; omega)
    simp only [Act.put, List.setIfInBounds_toArray, List.set_cons_zero, List.set_cons_succ]
    refine wpAnyH_ready (rs := [2]) (by kernel_rfl) (by simp) ?_
    refine AllReadyH.cons rfl (fun KK hK => ?_) AllReadyH.nil
    go_simp
    go_wp2_with (first | (go_at_call 59; refine (HCU.out _ (HB1.out.trans (Below.mono (by repeat (first | with_reducible exact Below.refl _ _ | with_reducible refine Below.setCell ?_ (by first | omega | (simp; done) | (simp; omega)) _ | with_reducible refine bDrewN ?_ _ | with_reducible refine Below.drew ?_ | with_reducible refine Below.alloc ?_ (by first | omega | (simp; done) | (simp; omega)) _)) HB1.out.size))).mono ?_; rintro e wz ⟨rfl, h8⟩; have B8 : Below w1.heap.size w1 wz := Below.trans (by repeat (first | with_reducible exact Below.refl _ _ | with_reducible refine Below.setCell ?_ (by first | omega | (simp; done) | (simp; omega)) _ | with_reducible refine bDrewN ?_ _ | with_reducible refine Below.drew ?_ | with_reducible refine Below.alloc ?_ (by first | omega | (simp; done) | (simp; omega)) _)) (h8.mono (by first | omega | (simp; done) | (simp; omega))); have s8 := B8.size; clear h8))
    refine hK.out _ _ (keep3P p0 p1 q0 zp zq B8) (fun hHeld => ?_)
    clear hK KK
    refine wpAnyH_take (i := 4) (v := .bool true) rfl (by kernel_rfl) (by kernel_rfl) (by kernel_rfl) (fun _ _ _ h => h) (Or.inl ⟨by kernel_rfl, ?_⟩) hHeld ?_
    · intro w' hSw
      obtain ⟨s0, s1, s2⟩ := hSw
      first | (go_simp; done) | (go_simp; with_reducible rfl) | (go_simp; rw [IntKind.wrap_i64]; omega) | (go_simp; omega)
    simp only [Act.put, List.setIfInBounds_toArray, List.set_cons_zero, List.set_cons_succ]
    refine wpAnyH_ready (rs := [5]) (by kernel_rfl) (by simp) ?_
    refine AllReadyH.cons rfl (fun KK hK => ?_) AllReadyH.nil
    go_simp
    refine hK.out _ _ hHeld (fun hHeld => ?_)
    clear hK KK
    refine wpAnyH_done (by kernel_rfl) ?_ _
    clear hHeld
    have B1 : Below w.heap.size w wz := HB1.out.trans (B8.mono HB1.out.size)
    replace gc := (B8.cell (p := ⟨4, 0, none⟩) zc).trans gc
    clear t1 t1b
    go_wp2
    go_ret
    exact ⟨_, rfl, Or.inr ⟨HO.out, _, _, rfl⟩, (by repeat (first | with_reducible exact Below.refl _ _ | with_reducible exact B1 | with_reducible refine Below.setCell ?_ (by first | omega | (simp; done) | (simp; omega)) _ | with_reducible refine bDrewN ?_ _ | with_reducible refine Below.drew ?_ | with_reducible refine Below.alloc ?_ (by first | omega | (simp; done) | (simp; omega)) _))⟩
  · have HO : Hid (plnB n X K V cr B k = true) := HGO.out (by omega) (by omega)
    have t1b : decide (cr < u) = false := decide_eq_false t1
    have t1c : u ≤ cr := by omega
    go_upto_region 4 with fail
    refine wp_region_held_drew (S := fun w' => w'.cell? ⟨p, 0, none⟩ = some (.slice s n c) ∧ w'.cell? ⟨p, 1, none⟩ = some (.slice (some ⟨h, i, none⟩) n d) ∧ w'.cell? ⟨q, 0, none⟩ = some (.int .i64 cr)) (by kernel_rfl) ?_ (fun hHeld => ?_)
    · exact keep3P p0 p1 q0 zp zq (by repeat (first | with_reducible exact Below.refl _ _ | with_reducible refine Below.setCell ?_ (by first | omega | (simp; done) | (simp; omega)) _ | with_reducible refine bDrewN ?_ _ | with_reducible refine Below.drew ?_ | with_reducible refine Below.alloc ?_ (by first | omega | (simp; done) | (simp; omega)) _))
    refine wpAnyH_take (i := 0) (v := .agg #[.slice s n c, .slice (some ⟨h, i, none⟩) n d]) rfl (by kernel_rfl) (by kernel_rfl) (by kernel_rfl) (fun _ _ _ h => h) (Or.inl ⟨by kernel_rfl, ?_⟩) hHeld ?_
    · intro w' hSw
      obtain ⟨s0, s1, s2⟩ := hSw
      first | (go_simp; done) | (go_simp; with_reducible rfl) | (go_simp; rw [IntKind.wrap_i64]; omega) | (go_simp; omega)
    simp only [Act.put, List.setIfInBounds_toArray, List.set_cons_zero, List.set_cons_succ]
    refine wpAnyH_take (i := 1) (v := .int .i64 y) rfl (by kernel_rfl) (by kernel_rfl) (by kernel_rfl) (fun _ _ _ h => h) (Or.inl ⟨by kernel_rfl, ?_⟩) hHeld ?_
    · intro w' hSw
      obtain ⟨s0, s1, s2⟩ := hSw
      first | (go_simp; done) | (go_simp; with_reducible rfl) | (go_simp; rw [IntKind.wrap_i64]; omega) | (go_simp; omega)
    simp only [Act.put, List.setIfInBounds_toArray, List.set_cons_zero, List.set_cons_succ]
    refine wpAnyH_take (i := 3) (v := .int .i64 cr) rfl (by kernel_rfl) (by kernel_rfl) (by kernel_rfl) (fun _ _ _ h => h) (Or.inl ⟨by kernel_rfl, ?_⟩) hHeld ?_
    · intro w' hSw
      obtain ⟨s0, s1, s2⟩ := hSw
      first | (go_simp; done) | (go_simp; with_reducible rfl) | (go_simp; rw [IntKind.wrap_i64]; omega) | (go_simp; omega)
    simp only [Act.put, List.setIfInBounds_toArray, List.set_cons_zero, List.set_cons_succ]
    refine wpAnyH_ready (rs := [2]) (by kernel_rfl) (by simp) ?_
    refine AllReadyH.cons rfl (fun KK hK => ?_) AllReadyH.nil
    go_simp
    go_wp2_with (first | (go_at_call 59; refine (HCU.out _ (HB1.out.trans (Below.mono (by repeat (first | with_reducible exact Below.refl _ _ | with_reducible refine Below.setCell ?_ (by first | omega | (simp; done) | (simp; omega)) _ | with_reducible refine bDrewN ?_ _ | with_reducible refine Below.drew ?_ | with_reducible refine Below.alloc ?_ (by first | omega | (simp; done) | (simp; omega)) _)) HB1.out.size))).mono ?_; rintro e wz ⟨rfl, h8⟩; have B8 : Below w1.heap.size w1 wz := Below.trans (by repeat (first | with_reducible exact Below.refl _ _ | with_reducible refine Below.setCell ?_ (by first | omega | (simp; done) | (simp; omega)) _ | with_reducible refine bDrewN ?_ _ | with_reducible refine Below.drew ?_ | with_reducible refine Below.alloc ?_ (by first | omega | (simp; done) | (simp; omega)) _)) (h8.mono (by first | omega | (simp; done) | (simp; omega))); have s8 := B8.size; clear h8))
    refine hK.out _ _ (keep3P p0 p1 q0 zp zq B8) (fun hHeld => ?_)
    clear hK KK
    refine wpAnyH_take (i := 4) (v := .bool false) rfl (by kernel_rfl) (by kernel_rfl) (by kernel_rfl) (fun _ _ _ h => h) (Or.inl ⟨by kernel_rfl, ?_⟩) hHeld ?_
    · intro w' hSw
      obtain ⟨s0, s1, s2⟩ := hSw
      first | (go_simp; done) | (go_simp; with_reducible rfl) | (go_simp; rw [IntKind.wrap_i64]; omega) | (go_simp; omega)
    simp only [Act.put, List.setIfInBounds_toArray, List.set_cons_zero, List.set_cons_succ]
    refine wpAnyH_ready (rs := [5]) (by kernel_rfl) (by simp) ?_
    refine AllReadyH.cons rfl (fun KK hK => ?_) AllReadyH.nil
    go_simp
    refine hK.out _ _ hHeld (fun hHeld => ?_)
    clear hK KK
    refine wpAnyH_done (by kernel_rfl) ?_ _
    clear hHeld
    have B1 : Below w.heap.size w wz := HB1.out.trans (B8.mono HB1.out.size)
    clear t1 t1b t1c
    go_wp2
    go_ret
    exact ⟨_, rfl, Or.inl ⟨HO.out, rfl⟩, (by repeat (first | with_reducible exact Below.refl _ _ | with_reducible exact B1 | with_reducible refine Below.setCell ?_ (by first | omega | (simp; done) | (simp; omega)) _ | with_reducible refine bDrewN ?_ _ | with_reducible refine Below.drew ?_ | with_reducible refine Below.alloc ?_ (by first | omega | (simp; done) | (simp; omega)) _))⟩
set_option maxRecDepth 20000 in
set_option maxHeartbeats 4000000 in
theorem planMisfit_any (s t : Option Addr) (n c d : Nat) (X : Nat → Int) (K : Nat → Nat) (V : Nat → Nat → Int) (B : Nat → Int) (cr : Int) (w : World) (hn : (n : Int) ≤ 40) (HK : Hid (∀ i, i < n → (K i : Int) ≤ 1048576)) (HR : Hid (RowJbs w s n X K V)) (HT : Hid (RowI w t n B)) (HG : Hid (∀ j, j < n → (1 ≤ X j ∧ X j ≤ 1000) ∧ 0 ≤ B j ∧ B j ≤ 1000000000)) (HV : Hid (∀ j, j < n → ∀ i, i < K j → 0 ≤ V j i ∧ V j i < (n : Int))) (HE : Hid (ErrS w)) :
    Calls Tryd.prog 44 #[.agg #[.slice s n c, .slice t n d], .int .i64 cr] w fun e w' => ∃ v, e = .returned v ∧ MisV v (decide (∀ j, j < n → plnB n X K V cr B j = true)) ∧ Below w.heap.size w w' := by
  go_enter Tryd.func44, Tryd.ntmps44
  go_upto_region 1 with fail
  obtain ⟨wa, hwa⟩ : ∃ wa, wa = (w.alloc (.cells #[.slice s n c, .slice t n d] 57)).alloc (.cells #[.int .i64 cr] 2) := ⟨_, rfl⟩
  rw [← hwa]
  have hb : Below w.heap.size w wa := by rw [hwa]; exact (by repeat (first | with_reducible exact Below.refl _ _ | with_reducible refine Below.setCell ?_ (by first | omega | (simp; done) | (simp; omega)) _ | with_reducible refine bDrewN ?_ _ | with_reducible refine Below.drew ?_ | with_reducible refine Below.alloc ?_ (by first | omega | (simp; done) | (simp; omega)) _))
  have a0 : wa.cell? ⟨w.heap.size, 0, none⟩ = some (.slice s n c) := by rw [hwa]; simp [go_sem]
  have a1 : wa.cell? ⟨w.heap.size, 1, none⟩ = some (.slice t n d) := by rw [hwa]; simp [go_sem]
  have a2 : wa.cell? ⟨w.heap.size + 1, 0, none⟩ = some (.int .i64 cr) := by rw [hwa]; simp [go_sem]
  have za : w.heap.size < wa.heap.size := by rw [hwa]; simp; try omega
  have zb : w.heap.size + 1 < wa.heap.size := by rw [hwa]; simp
  have HB : Hid (Below w.heap.size w wa) := hb
  have HC : Hid (∀ (k : Nat) w', k < n → Below wa.heap.size wa w' → Calls Tryd.prog 60 (#[.int .i64 k] ++ #[.pointer (some ⟨w.heap.size, 0, none⟩), .pointer (some ⟨w.heap.size + 1, 0, none⟩)]) w' fun e w2 => ∃ v, e = .returned v ∧ ErrV v (plnB n X K V cr B k) ∧ Below w'.heap.size w' w2) := fun k w' hk hx =>
    plan1_any w.heap.size (w.heap.size + 1) s t n c d X K V B cr k w' hk hn (HK.out k hk) (Nat.lt_of_lt_of_le za hx.size) (Nat.lt_of_lt_of_le zb hx.size) ((hx.cell (p := ⟨w.heap.size, 0, none⟩) za).trans a0) ((hx.cell (p := ⟨w.heap.size, 1, none⟩) za).trans a1) ((hx.cell (p := ⟨w.heap.size + 1, 0, none⟩) zb).trans a2)
      ((HR.out.below HB.out).below hx) ((HT.out.below HB.out).below hx) HG HV ((HE.out.below HB.out).below hx)
  clear hwa hb
  go_wp2_with fail
  refine (firstMisfit_any n 60 _ (fun k => plnB n X K V cr B k) _ (by omega) (fun _ _ => by kernel_rfl) HC).mono ?_
  rintro e w1 ⟨v, rfl, hv, hx⟩
  have B1 : Below w.heap.size w w1 := HB.out.trans (hx.mono HB.out.size)
  have HVV : Hid (MisV v (decide (∀ j, j < n → plnB n X K V cr B j = true))) := hv
  clear hv hx
  go_wp2
  go_ret
  exact retMisJ HVV.out B1
set_option maxRecDepth 20000 in
set_option maxHeartbeats 8000000 in
theorem implScheduleOk_any (s t : Option Addr) (n c m d : Nat) (X : Nat → Int) (K : Nat → Nat) (V : Nat → Nat → Int) (cr : Int) (B : Nat → Int) (w : World) (hn : (n : Int) ≤ 1048576) (hm : (m : Int) ≤ 1048576) (HK : Hid (∀ i, i < n → (K i : Int) ≤ 1048576)) (HR : Hid (RowJbs w s n X K V)) (HT : Hid (RowI w t m B)) (HE : Hid (ErrS w)) :
    Calls Tryd.prog 13 #[.slice s n c, .int .i64 cr, .slice t m d] w fun e w' => e = .returned (.bool (schB n X K V cr m B)) ∧ Below w.heap.size w w' := by
  have HX : Hid (∀ w1, Below w.heap.size w w1 → ErrS w1) := fun w1 hb => HE.out.below hb
  go_enter Tryd.func13, Tryd.ntmps13
  go_wp2_with fail
  refine (jobsMisfit_any s n c X K V _ hn HK HR HE.out.jobs).mono ?_
  rintro e w1 ⟨v, rfl, hv, h1⟩
  have HV : Hid (MisV v (jobsB n X K V)) := hv
  have B1 : Below w.heap.size w w1 := h1
  clear hv h1
  go_wp2_with fail
  refine (refused_any v (jobsB n X K V) _ HV (HX.out _ B1).1).mono ?_
  rintro e w2 ⟨rfl, h2⟩
  replace B1 : Below w.heap.size w w2 := B1.trans (h2.mono B1.size)
  clear h2 HV
  cases hc : jobsB n X K V
  · have HO : Hid (schB n X K V cr m B = false) := by show _ = _; unfold schB; rw [hc]; rfl
    go_wp2
    go_ret
    exact ⟨ret_bool HO.out.symm, B1⟩
  go_wp2_with fail
  refine (within_is _ _ _ _).mono ?_
  rintro e w2 ⟨rfl, rfl⟩
  cases h0 : inB 1 10 cr
  · have HO : Hid (schB n X K V cr m B = false) := by show _ = _; unfold schB; rw [hc, h0]; rfl
    go_wp2
    go_ret
    exact ⟨ret_bool HO.out.symm, B1⟩
  by_cases nm : m = n
  case neg =>
    have b2 : decide ((m : Int) = (n : Int)) = false := decide_eq_false (by omega)
    have HO : Hid (schB n X K V cr m B = false) := by show _ = _; unfold schB; rw [hc, h0, decide_eq_false nm]; rfl
    go_wp2
    go_ret
    exact ⟨ret_bool HO.out.symm, B1⟩
  subst nm
  have n4 := (jobs_yes hc).1
  have n5 : (m : Int) ≤ 40 := by omega
  have HJ := (jobs_yes hc).2
  have HO1 : Hid (schB m X K V cr m B = (allInB 0 100000 B m && decide (∀ j, j < m → plnB m X K V cr B j = true))) := by show _ = _; unfold schB; rw [hc, h0, decide_eq_true rfl]; rfl
  have HGJ : Hid (∀ j, j < m → (1 ≤ X j ∧ X j ≤ 1000)) := fun j hj => (job_yes (HJ j hj)).1
  have HGV : Hid (∀ j, j < m → ∀ i, i < K j → 0 ≤ V j i ∧ V j i < (m : Int)) := fun j hj i hi => by have := (job_yes (HJ j hj)).2.2 i hi; omega
  clear hc h0 HJ
  go_upto_region 4 with fail
  obtain ⟨wa, hwa⟩ : ∃ wa, wa = w2.alloc (.cells #[.slice s m c, .slice t m d] 57) := ⟨_, rfl⟩
  rw [← hwa]
  have hb : Below w2.heap.size w2 wa := by rw [hwa]; exact below0 _ _
  have a0 : wa.cell? ⟨w2.heap.size, 0, none⟩ = some (.slice s m c) := by rw [hwa]; simp [go_sem]
  have a1 : wa.cell? ⟨w2.heap.size, 1, none⟩ = some (.slice t m d) := by rw [hwa]; simp [go_sem]
  have HB : Hid (Below w.heap.size w wa) := B1.trans (hb.mono B1.size)
  clear hwa hb B1
  go_wp2_with fail
  refine (allWithin_any t m d B _ _ _ hm (HT.out.below HB.out)).mono ?_
  rintro e wa ⟨rfl, rfl⟩
  have B1 := HB.out
  cases h3 : allInB 0 100000 B m
  · have HO : Hid (schB m X K V cr m B = false) := by show _ = _; rw [HO1.out, h3]; rfl
    go_wp2
    go_ret
    exact ⟨ret_bool HO.out.symm, (by repeat (first | with_reducible exact Below.refl _ _ | with_reducible exact B1 | with_reducible refine Below.setCell ?_ (by first | omega | (simp; done) | (simp; omega)) _ | with_reducible refine bDrewN ?_ _ | with_reducible refine Below.drew ?_ | with_reducible refine Below.alloc ?_ (by first | omega | (simp; done) | (simp; omega)) _))⟩
  have HO2 : Hid (schB m X K V cr m B = decide (∀ j, j < m → plnB m X K V cr B j = true)) := by show _ = _; rw [HO1.out, h3]; rfl
  have HG : Hid (∀ j, j < m → (1 ≤ X j ∧ X j ≤ 1000) ∧ 0 ≤ B j ∧ B j ≤ 1000000000) := fun j hj => ⟨HGJ.out j hj, by have := allIn_yes h3.symm j hj; omega⟩
  clear h3 HO1
  go_wp2_with fail
  refine (planMisfit_any s t m c d X K V B cr _ n5 HK (HR.out.below B1) (HT.out.below B1) HG HGV (HX.out _ B1)).mono ?_
  rintro e w5 ⟨v5, rfl, hv, h5⟩
  have HV5 : Hid (MisV v5 (decide (∀ j, j < m → plnB m X K V cr B j = true))) := hv
  replace B1 : Below w.heap.size w w5 := B1.trans (h5.mono B1.size)
  clear hv h5 a0 a1
  obtain ⟨r, hr⟩ : ∃ r, decide (∀ j, j < m → plnB m X K V cr B j = true) = r := ⟨_, rfl⟩
  rw [hr] at HV5 HO2
  clear hr
  go_wp2_with fail
  refine (refused_any v5 r _ HV5 (HX.out _ B1).1).mono ?_
  rintro e w6 ⟨rfl, h6⟩
  replace B1 : Below w.heap.size w w6 := B1.trans (h6.mono B1.size)
  clear h6
  cases r
  · go_wp2
    go_ret
    exact ⟨ret_bool HO2.out.symm, (by repeat (first | with_reducible exact Below.refl _ _ | with_reducible exact B1 | with_reducible refine Below.setCell ?_ (by first | omega | (simp; done) | (simp; omega)) _ | with_reducible refine bDrewN ?_ _ | with_reducible refine Below.drew ?_ | with_reducible refine Below.alloc ?_ (by first | omega | (simp; done) | (simp; omega)) _))⟩
  · go_wp2
    go_ret
    exact ⟨ret_bool HO2.out.symm, (by repeat (first | with_reducible exact Below.refl _ _ | with_reducible exact B1 | with_reducible refine Below.setCell ?_ (by first | omega | (simp; done) | (simp; omega)) _ | with_reducible refine bDrewN ?_ _ | with_reducible refine Below.drew ?_ | with_reducible refine Below.alloc ?_ (by first | omega | (simp; done) | (simp; omega)) _))⟩

open Go.ChangeShapes Go.WideShapes Go.ChangeAt Go.RowKit
set_option linter.unusedVariables false
set_option linter.unusedSimpArgs false

theorem sch_range {n m k : Nat} {X : Nat → Int} {K : Nat → Nat} {V : Nat → Nat → Int} {cr : Int} {B : Nat → Int} (hk : k < m) (h : ¬ (0 ≤ B k ∧ B k ≤ 100000)) : schB n X K V cr m B = false := by
  have : allInB 0 100000 B m = false := decide_eq_false (fun q => h (q k hk))
  unfold schB
  rw [this]
  simp
theorem sch_plan {n m k : Nat} {X : Nat → Int} {K : Nat → Nat} {V : Nat → Nat → Int} {cr : Int} {B : Nat → Int} (hk : k < n) (h : plnB n X K V cr B k = false) : schB n X K V cr m B = false := by
  have : decide (∀ j, j < n → plnB n X K V cr B j = true) = false := decide_eq_false (fun q => by have := q k hk; rw [h] at this; cases this)
  unfold schB
  rw [this]
  simp
theorem sch_all {n : Nat} {X : Nat → Int} {K : Nat → Nat} {V : Nat → Nat → Int} {cr : Int} {B : Nat → Int} (h0 : jobsB n X K V = true) (h1 : inB 1 10 cr = true) (h2 : ∀ j, j < n → 0 ≤ B j ∧ B j ≤ 100000) (h3 : ∀ j, j < n → plnB n X K V cr B j = true) : schB n X K V cr n B = true := by
  unfold schB
  rw [h0, h1, decide_eq_true rfl, decide_eq_true h3]
  have : allInB 0 100000 B n = true := decide_eq_true h2
  rw [this]
  rfl
set_option maxRecDepth 20000 in
set_option maxHeartbeats 8000000 in
theorem specScheduleOk_any (s t : Option Addr) (n c m d : Nat) (X : Nat → Int) (K : Nat → Nat) (V : Nat → Nat → Int) (cr : Int) (B : Nat → Int) (w : World) (hn : (n : Int) ≤ 1048576) (hm : (m : Int) ≤ 1048576) (HK : Hid (∀ i, i < n → (K i : Int) ≤ 1048576)) (HR : Hid (RowJbs w s n X K V)) (HT : Hid (RowI w t m B)) :
    Calls Tryd.prog 14 #[.slice s n c, .int .i64 cr, .slice t m d] w fun e w' => e = .returned (.bool (schB n X K V cr m B)) ∧ Below w.heap.size w w' := by
  go_enter Tryd.func14, Tryd.ntmps14
  go_wp2_with fail
  refine (l25Jobs_any s n c X K V _ hn HK HR).mono ?_
  rintro e w2 ⟨rfl, h2⟩
  have B1 : Below w.heap.size w w2 := h2
  clear h2
  cases hc : jobsB n X K V
  · have HO : Hid (schB n X K V cr m B = false) := by show _ = _; unfold schB; rw [hc]; rfl
    go_wp2
    go_ret
    exact ⟨ret_bool HO.out.symm, B1⟩
  go_wp2_with fail
  refine (l1In_is _ _ _ _).mono ?_
  rintro e w2 ⟨rfl, rfl⟩
  cases h0 : inB 1 10 cr
  · have HO : Hid (schB n X K V cr m B = false) := by show _ = _; unfold schB; rw [hc, h0]; rfl
    go_wp2
    go_ret
    exact ⟨ret_bool HO.out.symm, B1⟩
  by_cases nm : m = n
  case neg =>
    have b2 : decide ((m : Int) = (n : Int)) = false := decide_eq_false (by omega)
    have HO : Hid (schB n X K V cr m B = false) := by show _ = _; unfold schB; rw [hc, h0, decide_eq_false nm]; rfl
    go_wp2
    go_ret
    exact ⟨ret_bool HO.out.symm, B1⟩
  subst nm
  have n4 := (jobs_yes hc).1
  have n5 : (m : Int) ≤ 40 := by omega
  have HJ := (jobs_yes hc).2
  have HALL : Hid ((∀ j, j < m → 0 ≤ B j ∧ B j ≤ 100000) → (∀ j, j < m → plnB m X K V cr B j = true) → schB m X K V cr m B = true) := sch_all hc h0
  have HGJ : Hid (∀ j, j < m → (1 ≤ X j ∧ X j ≤ 1000)) := fun j hj => (job_yes (HJ j hj)).1
  have HGV : Hid (∀ j, j < m → ∀ i, i < K j → 0 ≤ V j i ∧ V j i < (j : Int)) := fun j hj i hi => by have := (job_yes (HJ j hj)).2.2 i hi; omega
  have HB1 : Hid (Below w.heap.size w w2) := B1
  clear hc h0 HJ B1
  go_wp2_with fail
  go_loopw [7] (fun i wr => ∃ k : Nat, k ≤ m ∧ i = .int .i64 k ∧ Hid (∀ j, j < k → (0 ≤ B j ∧ B j ≤ 100000) ∧ rdyF X B (V j) (K j) ≤ B j) ∧ Below w.heap.size w wr) (fun i _ => m - (intOf i).toNat)
  case atStart => exact ⟨0, Nat.zero_le _, rfl, fun j hj => by omega, HB1.out⟩
  case round =>
    obtain ⟨k, hk, rfl, HP, hB⟩ := hrel
    by_cases h1 : k < m
    · obtain ⟨h, i, rfl, zh, d0⟩ := HT.out k h1
      replace d0 := (hB.cell (p := ⟨h, i + k, none⟩) zh).trans d0
      have k1 : (k : Int) < (m : Int) := by omega
      have HRG : Hid (inB 0 100000 (B k) = false → schB m X K V cr m B = false) := fun z => sch_range h1 (of_decide_eq_false z)
      have HRI : Hid (inB 0 100000 (B k) = true → 0 ≤ B k ∧ B k ≤ 100000) := fun z => inB_yes z
      have HNX : Hid ((0 ≤ B k ∧ B k ≤ 100000) → rdyF X B (V k) (K k) ≤ B k → ∀ j, j < k + 1 → (0 ≤ B j ∧ B j ≤ 100000) ∧ rdyF X B (V j) (K j) ≤ B j) := fun z1 z2 => ball_succJ HP.out ⟨z1, z2⟩
      have HBV : ∀ i, i < K k → 0 ≤ B (V k i).toNat := fun i hi => by have := HGV.out k h1 i hi; exact (HP.out (V k i).toNat (by omega)).1.1
      have HFR : Hid (0 ≤ B k → freB X B (V k) (K k) (B k) = decide (rdyF X B (V k) (K k) ≤ B k)) := fun z => free_rdy z HBV
      have HEA : Hid (¬ rdyF X B (V k) (K k) ≤ B k → schB m X K V cr m B = false) := fun z => sch_plan h1 (pln_early (by omega))
      have HCF : Hid (∀ w1, Below w.heap.size w w1 → Calls Tryd.prog 41 #[.slice s m c, .slice (some ⟨h, i, none⟩) m d, .int .i64 k, .int .i64 (B k)] w1 fun e w' => e = .returned (.bool (freB X B (V k) (K k) (B k))) ∧ Below w1.heap.size w1 w') := fun w1 hb => l25Free_any s _ m c d X K V B k (B k) w1 h1 n5 (HK.out k h1) (fun i hi => by
        have q1 := HGV.out k h1 i hi
        have q2 := (HP.out (V k i).toNat (by omega)).1
        have q3 := HGJ.out (V k i).toNat (by omega)
        exact ⟨by omega, q3, by omega⟩) (HR.out.below hb) (HT.out.below hb)
      obtain ⟨y, hy⟩ : ∃ y, B k = y := ⟨_, rfl⟩
      rw [hy] at d0 HRG HRI HNX HFR HEA HCF
      clear hy HBV
      go_wp2_with fail
      refine (l1In_is _ _ _ _).mono ?_
      rintro e wr ⟨rfl, rfl⟩
      cases e0 : inB 0 100000 y
      · have HO : Hid (schB m X K V cr m B = false) := HRG.out e0
        go_wp2
        go_ret
        exact ⟨ret_bool HO.out.symm, (by repeat (first | with_reducible exact Below.refl _ _ | with_reducible exact hB | with_reducible refine Below.setCell ?_ (by first | omega | (simp; done) | (simp; omega)) _ | with_reducible refine bDrewN ?_ _ | with_reducible refine Below.drew ?_ | with_reducible refine Below.alloc ?_ (by first | omega | (simp; done) | (simp; omega)) _))⟩
      have yb := HRI.out e0
      rw [HFR.out yb.1] at HCF
      clear e0
      go_wp2_with fail
      refine (HCF.out _ hB).mono ?_
      rintro e w4 ⟨rfl, h4⟩
      have B4 : Below w.heap.size w w4 := hB.trans (h4.mono hB.size)
      clear h4
      by_cases t0 : rdyF X B (V k) (K k) ≤ y
      · rw [decide_eq_true t0]
        have HZ : Hid (∀ j, j < k + 1 → (0 ≤ B j ∧ B j ≤ 100000) ∧ rdyF X B (V j) (K j) ≤ B j) := HNX.out yb t0
        clear t0
        go_wp2
        go_roundw
        case rel => exact ⟨k + 1, by omega, by go_num, HZ, (by repeat (first | with_reducible exact Below.refl _ _ | with_reducible exact B4 | with_reducible refine Below.setCell ?_ (by first | omega | (simp; done) | (simp; omega)) _ | with_reducible refine bDrewN ?_ _ | with_reducible refine Below.drew ?_ | with_reducible refine Below.alloc ?_ (by first | omega | (simp; done) | (simp; omega)) _))⟩
        case measure => first | (simp [intOf]; done) | (simp [intOf]; omega)
      · rw [decide_eq_false t0]
        have HO : Hid (schB m X K V cr m B = false) := HEA.out (by omega)
        clear t0
        go_wp2
        go_ret
        exact ⟨ret_bool HO.out.symm, (by repeat (first | with_reducible exact Below.refl _ _ | with_reducible exact B4 | with_reducible refine Below.setCell ?_ (by first | omega | (simp; done) | (simp; omega)) _ | with_reducible refine bDrewN ?_ _ | with_reducible refine Below.drew ?_ | with_reducible refine Below.alloc ?_ (by first | omega | (simp; done) | (simp; omega)) _))⟩
    · obtain rfl : k = m := by omega
      have HBM : Hid (∀ j, j < k → 0 ≤ B j ∧ B j ≤ 100000) := fun j hj => (HP.out j hj).1
      have HRM : Hid (∀ j, j < k → rdyF X B (V j) (K j) ≤ B j) := fun j hj => (HP.out j hj).2
      have HW : Hid (Below w.heap.size w wr) := hB
      clear hB h1 HP
      go_wp2_with fail
      go_loopw [8] (fun i wq => ∃ j : Nat, j ≤ k ∧ i = .int .i64 j ∧ Hid (∀ q, q < j → plnB k X K V cr B q = true) ∧ Below w.heap.size w wq) (fun i _ => k - (intOf i).toNat)
      case atStart => exact ⟨0, Nat.zero_le _, rfl, fun j hj => by omega, HW.out⟩
      case round =>
        obtain ⟨j, hj, rfl, HQ, hB⟩ := hrel
        by_cases h1 : j < k
        · obtain ⟨h, i, rfl, zh, d0⟩ := HT.out j h1
          replace d0 := (hB.cell (p := ⟨h, i + j, none⟩) zh).trans d0
          have j1 : (j : Int) < (k : Int) := by omega
          have HCB : Hid (∀ w1, Below w.heap.size w w1 → Calls Tryd.prog 40 #[.slice s k c, .slice (some ⟨h, i, none⟩) k d, .int .i64 (B j)] w1 fun e w' => e = .returned (.int .i64 (busI X B (B j) k)) ∧ Below w1.heap.size w1 w') := fun w1 hb => by
            rw [← bus_same k (fun i hi => (HBM.out i hi).1)]
            exact l25Busy_any s _ k c d X K V B (B j) w1 n5 (fun q hq => ⟨HGJ.out q hq, by have := HBM.out q hq; omega⟩) (HR.out.below hb) (HT.out.below hb)
          have HMA : Hid (cr < busI X B (B j) k → schB k X K V cr k B = false) := fun z => sch_plan h1 (pln_many z)
          have HGO : Hid (¬ cr < busI X B (B j) k → ∀ q, q < j + 1 → plnB k X K V cr B q = true) := fun z => ball_succJ HQ.out (pln_good (by have := HRM.out j h1; omega) z)
          obtain ⟨y, hy⟩ : ∃ y, B j = y := ⟨_, rfl⟩
          rw [hy] at d0 HCB HMA HGO
          obtain ⟨u, hu⟩ : ∃ u, busI X B y k = u := ⟨_, rfl⟩
          rw [hu] at HCB HMA HGO
          clear hy hu
          go_wp2_with fail
          refine (HCB.out _ hB).mono ?_
          rintro e w4 ⟨rfl, h4⟩
          have B4 : Below w.heap.size w w4 := hB.trans (h4.mono hB.size)
          clear h4
          by_cases t0 : cr < u
          · have HO : Hid (schB k X K V cr k B = false) := HMA.out t0
            go_wp2
            go_ret
            exact ⟨ret_bool HO.out.symm, (by repeat (first | with_reducible exact Below.refl _ _ | with_reducible exact B4 | with_reducible refine Below.setCell ?_ (by first | omega | (simp; done) | (simp; omega)) _ | with_reducible refine bDrewN ?_ _ | with_reducible refine Below.drew ?_ | with_reducible refine Below.alloc ?_ (by first | omega | (simp; done) | (simp; omega)) _))⟩
          · have HZ : Hid (∀ q, q < j + 1 → plnB k X K V cr B q = true) := HGO.out (by omega)
            go_wp2
            go_roundw
            case rel => exact ⟨j + 1, by omega, by go_num, HZ, (by repeat (first | with_reducible exact Below.refl _ _ | with_reducible exact B4 | with_reducible refine Below.setCell ?_ (by first | omega | (simp; done) | (simp; omega)) _ | with_reducible refine bDrewN ?_ _ | with_reducible refine Below.drew ?_ | with_reducible refine Below.alloc ?_ (by first | omega | (simp; done) | (simp; omega)) _))⟩
            case measure => first | (simp [intOf]; done) | (simp [intOf]; omega)
        · obtain rfl : j = k := by omega
          have HO : Hid (schB j X K V cr j B = true) := HALL.out HBM.out HQ.out
          go_wp2
          go_ret
          exact ⟨ret_bool HO.out.symm, hB⟩

end Go.Proofs.YtffjhbgnhnnfiaaDoor
