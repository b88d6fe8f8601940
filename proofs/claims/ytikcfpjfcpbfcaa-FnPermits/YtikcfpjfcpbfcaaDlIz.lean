/-
What is proved: slices.Delete of one permit.
-/
import Derived.Test.YtikcfpjfcpbfcaaZcG
import Derived.Deep.DeepCutAuto
namespace Go.Proofs.Ytikcfpjfcpbfcaa
set_option maxRecDepth 40000
open Go.ChangeShapes Go.WideShapes Go.ChangeAt Go.RowKit
set_option linter.unusedVariables false
set_option linter.unusedSimpArgs false

def CutW (b n q : Nat) (X Y : Nat → Int) (K : Nat → Nat) (V : Nat → Nat → Int) (w W1 : World) : Prop := (PcK b (W1.setCells b ((n - 1) * 3) [.int .i64 0, .int .i64 0, .slice none 0 0]) n (n - 1) (fun i => X (sk q i)) (fun i => Y (sk q i)) (fun i => K (sk q i)) (fun i => V (sk q i)) ∧ ∀ i, i < n - 1 → (W1.setCells b ((n - 1) * 3) [.int .i64 0, .int .i64 0, .slice none 0 0]).cell? ⟨b, i * 3 + 2, none⟩ = w.cell? ⟨b, sk q i * 3 + 2, none⟩) ∧ Beside b w W1 ∧ (∀ j, j < n * 3 → (W1.cell? ⟨b, j, none⟩).isSome = true) ∧ ∀ o, W1.frozen? ⟨b, o, none⟩ = false
theorem cut_runs {w : World} (b n q r : Nat) (X Y : Nat → Int) (K : Nat → Nat) (V : Nat → Nat → Int) (hq : q < n) (hr : r = q + 1) (HC : PcK b w n n X Y K V) : ∃ (L : List Value) (W1 : World), Sem.run Try.prog (loadCellsFrom ⟨b, r * 3, none⟩ 0 ((n - r) * 3) #[]) w = .ok L.toArray w ∧ Sem.run Try.prog (storeCells ⟨b, q * 3, none⟩ L) w = .ok () W1 ∧ CutW b n q X Y K V w W1 := by
  obtain ⟨AA, CC, hp⟩ := HC.pick
  subst hr
  have hl := ptC_len (fun i => X (q + 1 + i)) (fun i => Y (q + 1 + i)) (fun i => K (q + 1 + i)) (fun i => AA (q + 1 + i)) (fun i => CC (q + 1 + i)) (n - q - 1)
  refine ⟨ptC (fun i => X (q + 1 + i)) (fun i => Y (q + 1 + i)) (fun i => K (q + 1 + i)) (fun i => AA (q + 1 + i)) (fun i => CC (q + 1 + i)) (n - q - 1), w.setCells b (q * 3) (ptC (fun i => X (q + 1 + i)) (fun i => Y (q + 1 + i)) (fun i => K (q + 1 + i)) (fun i => AA (q + 1 + i)) (fun i => CC (q + 1 + i)) (n - q - 1)), ?_, ?_, HC.cut hq hp _ _ _, Beside.setCells b _ _ _, fun j hj => some_setCells _ _ _ _ _ (HC.2.2.2 j hj), fun o => by rw [World.frozen?_setCells]; exact HC.2.1 o⟩
  · have t := run_loadCells_list (P := Try.prog) w ⟨b, (q + 1) * 3, none⟩ (ptC (fun i => X (q + 1 + i)) (fun i => Y (q + 1 + i)) (fun i => K (q + 1 + i)) (fun i => AA (q + 1 + i)) (fun i => CC (q + 1 + i)) (n - q - 1)) (fun j u hu => by
      rw [Addr.add_lit]
      exact ptC_cells (w := w) (b := b) (o := (q + 1) * 3) (X := fun i => X (q + 1 + i)) (Y := fun i => Y (q + 1 + i)) (K := fun i => K (q + 1 + i)) (A := fun i => AA (q + 1 + i)) (C := fun i => CC (q + 1 + i)) (n := n - q - 1) (fun i hi => by
        have t := hp (q + 1 + i) (by omega)
        rw [show (q + 1) * 3 + i * 3 = (q + 1 + i) * 3 by omega]
        exact t) j u hu)
    rw [hl, show n - q - 1 = n - (q + 1) by omega] at t
    rw [show n - q - 1 = n - (q + 1) by omega]
    exact t
  · have hst := run_storeCells_cells (P := Try.prog) b (q * 3) (ptC (fun i => X (q + 1 + i)) (fun i => Y (q + 1 + i)) (fun i => K (q + 1 + i)) (fun i => AA (q + 1 + i)) (fun i => CC (q + 1 + i)) (n - q - 1)) 0 w (fun j hj => by rw [hl] at hj; exact HC.2.2.2 _ (by omega)) (fun j hj => HC.2.1 _) (ptC_one _ _ _ _ _ _)
    simpa only [Nat.add_zero] using hst
theorem cut_last {w : World} (b n q : Nat) (X Y : Nat → Int) (K : Nat → Nat) (V : Nat → Nat → Int) (hq : q + 1 = n) (HC : PcK b w n n X Y K V) : CutW b n q X Y K V w w := by
  obtain ⟨AA, CC, hp⟩ := HC.pick
  have t := HC.cut (q := q) (by omega) hp (.int .i64 0) (.int .i64 0) (.slice none 0 0)
  rw [show n - q - 1 = 0 by omega] at t
  exact ⟨t, Beside.of (Below.refl _ _), HC.2.2.2, HC.2.1⟩
theorem CutW.clear {b n q m1 : Nat} {w W1 : World} {X Y : Nat → Int} {K : Nat → Nat} {V : Nat → Nat → Int} (h : CutW b n q X Y K V w W1) (hn : q < n) (hm : m1 = n - 1) (c : Nat) : (∀ ty, (Builtin.clear_ #[34] ty #[.slice (some ⟨b, m1 * 3, none⟩) 1 c]).run Try.prog W1 = .ok (.tuple #[]) (W1.setCells b (m1 * 3) [.int .i64 0, .int .i64 0, .slice none 0 0])) ∧ (PcK b (W1.setCells b (m1 * 3) [.int .i64 0, .int .i64 0, .slice none 0 0]) n (n - 1) (fun i => X (sk q i)) (fun i => Y (sk q i)) (fun i => K (sk q i)) (fun i => V (sk q i)) ∧ ∀ i, i < n - 1 → (W1.setCells b (m1 * 3) [.int .i64 0, .int .i64 0, .slice none 0 0]).cell? ⟨b, i * 3 + 2, none⟩ = w.cell? ⟨b, sk q i * 3 + 2, none⟩) ∧ Beside b w (W1.setCells b (m1 * 3) [.int .i64 0, .int .i64 0, .slice none 0 0]) := by
  subst hm
  exact ⟨fun ty => clear_one (fun j hj => h.2.2.1 _ (by omega)) (fun j hj => h.2.2.2 _) ty, h.1, h.2.1.trans (Beside.setCells b _ _ _)⟩
theorem PcK.drewN {b n k : Nat} {w : World} {X Y : Nat → Int} {K : Nat → Nat} {V : Nat → Nat → Int} (h : PcK b w n k X Y K V) (q : Nat) : PcK b (w.drewN q) n k X Y K V := h
set_option maxRecDepth 20000 in
set_option maxHeartbeats 4000000 in
theorem delete_any (b n q r : Nat) (X Y : Nat → Int) (K : Nat → Nat) (V : Nat → Nat → Int) (w : World) (hn : (n : Int) ≤ 1000) (hq : q < n) (hr : r = q + 1) (HC : Hid (PcK b w n n X Y K V)) :
    Calls Try.prog 63 #[.slice (some ⟨b, 0, none⟩) n n, .int .i64 (q : Int), .int .i64 (r : Int)] w fun e w' => (∃ m1 : Nat, e = .returned (.slice (some ⟨b, 0, none⟩) m1 n) ∧ m1 = n - 1) ∧ (PcK b w' n (n - 1) (fun i => X (sk q i)) (fun i => Y (sk q i)) (fun i => K (sk q i)) (fun i => V (sk q i)) ∧ ∀ i, i < n - 1 → w'.cell? ⟨b, i * 3 + 2, none⟩ = w.cell? ⟨b, sk q i * 3 + 2, none⟩) ∧ Beside b w w' := by
  have HR : Hid (r = q + 1) := hr
  have r1 : q < r := by omega
  have r2 : r ≤ n := by omega
  have q0 : (q : Int) < (r : Int) := by omega
  have q1 : (r : Int) ≤ (n : Int) := by omega
  have qb : ((q : Int) == (r : Int)) = false := beq_false_of_ne (by omega)
  obtain ⟨m1, hm1⟩ : ∃ m1, m1 = n - 1 := ⟨_, rfl⟩
  have HM : Hid (m1 = n - 1) := hm1
  have mm : m1 < n := by omega
  have m0 : (m1 : Int) < (n : Int) := by omega
  clear hm1
  go_enter Try.func63, Try.ntmps63
  by_cases hl : n = r
  case pos =>
    have HC1 : Hid (CutW b n q X Y K V w.drew w.drew) := cut_last b n q X Y K V (by have := HR.out; omega) (HC.out.drewN 1)
    obtain ⟨hcl, hN, hBs⟩ := HC1.out.clear hq HM.out 1
    have HN : Hid (PcK b (w.drew.setCells b (m1 * 3) [.int .i64 0, .int .i64 0, .slice none 0 0]) n (n - 1) (fun i => X (sk q i)) (fun i => Y (sk q i)) (fun i => K (sk q i)) (fun i => V (sk q i)) ∧ ∀ i, i < n - 1 → (w.drew.setCells b (m1 * 3) [.int .i64 0, .int .i64 0, .slice none 0 0]).cell? ⟨b, i * 3 + 2, none⟩ = w.cell? ⟨b, sk q i * 3 + 2, none⟩) := hN
    have HBs : Hid (Beside b w (w.drew.setCells b (m1 * 3) [.int .i64 0, .int .i64 0, .slice none 0 0])) := (Beside.of (by repeat (first | with_reducible exact Below.refl _ _ | with_reducible refine Below.setCell ?_ (by first | omega | (simp; done) | (simp; omega)) _ | with_reducible refine bDrewN ?_ _ | with_reducible refine Below.drew ?_ | with_reducible refine Below.alloc ?_ (by first | omega | (simp; done) | (simp; omega)) _))).trans hBs
    have qm : q = m1 := by have := HM.out; have := HR.out; omega
    have m2 : n - m1 = 1 := by omega
    subst hl
    subst qm
    clear hN hBs hr
    go_upto_region 5 with fail
    go_region
    all_goals go_wp2_with (simp only [hcl])
    all_goals go_ret
    all_goals exact ⟨⟨_, rfl, HM.out⟩, HN.out, HBs.out⟩
  case neg =>
    obtain ⟨L, W1, hld, hst, hc1⟩ := cut_runs (w := w.drew) b n q r X Y K V hq hr (HC.out.drewN 1)
    obtain ⟨hcl, hN, hBs⟩ := hc1.clear hq HM.out 1
    have HN : Hid (PcK b (W1.setCells b (m1 * 3) [.int .i64 0, .int .i64 0, .slice none 0 0]) n (n - 1) (fun i => X (sk q i)) (fun i => Y (sk q i)) (fun i => K (sk q i)) (fun i => V (sk q i)) ∧ ∀ i, i < n - 1 → (W1.setCells b (m1 * 3) [.int .i64 0, .int .i64 0, .slice none 0 0]).cell? ⟨b, i * 3 + 2, none⟩ = w.cell? ⟨b, sk q i * 3 + 2, none⟩) := hN
    have HBs : Hid (Beside b w (W1.setCells b (m1 * 3) [.int .i64 0, .int .i64 0, .slice none 0 0])) := (Beside.of (by repeat (first | with_reducible exact Below.refl _ _ | with_reducible refine Below.setCell ?_ (by first | omega | (simp; done) | (simp; omega)) _ | with_reducible refine bDrewN ?_ _ | with_reducible refine Below.drew ?_ | with_reducible refine Below.alloc ?_ (by first | omega | (simp; done) | (simp; omega)) _))).trans hBs
    have qm : q + (n - r) = m1 := by have := HM.out; omega
    have m2 : n - m1 = 1 := by omega
    clear hN hBs hc1 hr
    go_upto_region 5 with fail
    go_region
    all_goals try rw [qm]
    all_goals go_wp2_with (simp only [hcl])
    all_goals go_ret
    all_goals exact ⟨⟨_, rfl, HM.out⟩, HN.out, HBs.out⟩
end Go.Proofs.Ytikcfpjfcpbfcaa
