/-
What is proved: how a plan is gone through from its last step to its first.
-/
import Derived.Test.YtlkegoofpmgcjaaRgF
import Derived.Test.YtlkegoofpmgcjaaBnM
namespace Go.Proofs.Ytlkegoofpmgcjaa
set_option maxRecDepth 40000
open Go.ChangeShapes Go.WideShapes Go.ChangeAt Go.RowKit
set_option linter.unusedVariables false
set_option linter.unusedSimpArgs false

open Go.Shelf
attribute [local go_sem] Oper.semAt_some
/-- A plan in memory that a round leaves alone. -/
def PlK (n0 bf : Nat) (W : World) (s : Option Addr) (n : Nat) (V : Nat → Int) : Prop := ∃ b o, s = some ⟨b, o, none⟩ ∧ b < n0 ∧ b ≠ bf ∧ ∀ j, j < n * 5 → W.cell? ⟨b, o + j, none⟩ = some (.int .i64 (V j))
theorem PlK.keep {n0 bf n : Nat} {W W' : World} {s : Option Addr} {V : Nat → Int} (h : PlK n0 bf W s n V) (hk : KpB n0 bf W W') : PlK n0 bf W' s n V := by
  obtain ⟨b, o, e, h1, h2, h3⟩ := h
  exact ⟨b, o, e, h1, h2, fun j hj => (hk.cell (p := ⟨b, o + j, none⟩) h1 h2).trans (h3 j hj)⟩
def encS (V : Nat → Int) {n : Nat} (x : Pce n) : Array Value := #[.int .i64 (x.1 : Int), .agg #[.int .i64 (V (x.1 * 5)), .int .i64 (V (x.1 * 5 + 1)), .int .i64 (V (x.1 * 5 + 2)), .int .i64 (V (x.1 * 5 + 3)), .int .i64 (V (x.1 * 5 + 4))]]
set_option maxRecDepth 20000 in
set_option maxHeartbeats 4000000 in
theorem fromLast_stops (m nn : Nat) (V : Nat → Int) (n0 bf bp : Nat) (s : Option Addr) (c : Nat) (w : World) (hm : 1 ≤ m) (hn : 0 < nn) (h40 : (nn : Int) ≤ 40) (hbp : bp < n0) (hne : bp ≠ bf) (hsz : n0 ≤ w.heap.size) (hB : w.cell? ⟨bp, 0, none⟩ = some (.slice s nn c)) (hP : PlK n0 bf w s nn V) :
    SeqStopsK Fence.wide m Try.prog 65 #[.pointer (some ⟨bp, 0, none⟩)] (encS V (n := nn)) (KpB n0 bf) (fun xs => xs = dA nn hn nn) (fun _ => True) nn w := fun l J Jx W hW hJ hJx hY h0 => by
  have hK0 : KpB n0 bf w W := KpB.below (hW.mono hsz)
  have cb : W.cell? ⟨bp, 0, none⟩ = some (.slice s nn c) := (hK0.cell (p := ⟨bp, 0, none⟩) hbp hne).trans hB
  have hP0 : PlK n0 bf W s nn V := hP.keep hK0
  obtain ⟨b, o, rfl, hb0, hbn, hcs⟩ := hP0
  have HCS : Hid (∀ j, j < nn * 5 → W.cell? ⟨b, o + j, none⟩ = some (.int .i64 (V j))) := hcs
  have HCB : Hid (W.cell? ⟨bp, 0, none⟩ = some (.slice (some ⟨b, o, none⟩) nn c)) := cb
  clear hcs hP hK0
  refine callsIn_of_wp Try.func65 rfl trivial ?_ rfl
  simp only [Try.ntmps65, List.size_toArray, List.length_cons, List.length_nil, Nat.reduceAdd, Nat.reduceSub, Array.replicate_succ, Array.replicate_zero, List.push_toArray, List.append_toArray, List.nil_append, List.cons_append]
  gi_wp2
  gi_loopw [3] (fun i wr => ∃ k : Nat, k ≤ nn ∧ i = .int .i64 ((k : Int) - 1) ∧ J (dA nn hn (nn - k)) wr ∧ Hid (KpB n0 bf W wr)) (fun i _ => ((intOf i) + 1).toNat)
  case atStart => exact ⟨nn, Nat.le_refl _, rfl, by rw [Nat.sub_self]; exact h0, KpB.refl _ _ _⟩
  case round =>
    obtain ⟨k, hk, rfl, hJs, HK⟩ := hrel
    cases k with
    | zero =>
      gi_wp2
      go_end0
      exact ⟨⟨_, rfl⟩, .inl ⟨_, rfl, by rw [Nat.sub_zero] at hJs; exact hJs⟩⟩
    | succ p =>
      have e : (((p + 1 : Nat) : Int) - 1) = (p : Int) := by omega
      have hp : p < nn := by omega
      have hpi : (p : Int) < (nn : Int) := by omega
      have hp0 : (0 : Int) ≤ (p : Int) := by omega
      rw [e]
      have cb' : wr.cell? ⟨bp, 0, none⟩ = some (.slice (some ⟨b, o, none⟩) nn c) := (HK.out.cell (p := ⟨bp, 0, none⟩) hbp hne).trans HCB.out
      have c0 : wr.cell? ⟨b, o + p * 5, none⟩ = some (.int .i64 (V (p * 5))) := (HK.out.cell (p := ⟨b, o + p * 5, none⟩) hb0 hbn).trans (HCS.out _ (by omega))
      have c1 : wr.cell? ⟨b, o + p * 5 + 1, none⟩ = some (.int .i64 (V (p * 5 + 1))) := (HK.out.cell (p := ⟨b, o + p * 5 + 1, none⟩) hb0 hbn).trans (HCS.out (p * 5 + 1) (by omega))
      have c2 : wr.cell? ⟨b, o + p * 5 + 2, none⟩ = some (.int .i64 (V (p * 5 + 2))) := (HK.out.cell (p := ⟨b, o + p * 5 + 2, none⟩) hb0 hbn).trans (HCS.out (p * 5 + 2) (by omega))
      have c3 : wr.cell? ⟨b, o + p * 5 + 3, none⟩ = some (.int .i64 (V (p * 5 + 3))) := (HK.out.cell (p := ⟨b, o + p * 5 + 3, none⟩) hb0 hbn).trans (HCS.out (p * 5 + 3) (by omega))
      have c4 : wr.cell? ⟨b, o + p * 5 + 4, none⟩ = some (.int .i64 (V (p * 5 + 4))) := (HK.out.cell (p := ⟨b, o + p * 5 + 4, none⟩) hb0 hbn).trans (HCS.out (p * 5 + 4) (by omega))
      have hJ2 := hJs
      rw [show nn - (p + 1) = nn - 1 - p by omega] at hJ2
      obtain ⟨fn, tmps, assign, body, hy, hR⟩ := hY (dA nn hn (nn - 1 - p)) ⟨p, hp⟩ wr hJ2 (by rw [dA_len]; omega)
      dsimp only [encS] at hy
      have HJ : Hid (dA nn hn (nn - 1 - p) ++ [⟨p, hp⟩] = dA nn hn (nn - p)) := by
        show _ = _
        rw [show nn - p = nn - 1 - p + 1 by omega, dA_succ]
        congr 3
        omega
      clear hJ2 hJs
      gi_wp2
      refine hR.mono ?_
      rintro e W3 (⟨rfl, hJ3, hk3⟩ | ⟨rfl, hJx3⟩)
      · rw [HJ.out] at hJ3
        have HK3 : Hid (KpB n0 bf W W3) := HK.out.trans hk3
        gi_wp2
        go_roundw
        case rel => exact ⟨p, by omega, rfl, hJ3, HK3⟩
        case measure => simp [intOf]
      · gi_wp2
        refine bodyPost_ret (results_none rfl _ _ _) rfl ?_
        exact ⟨⟨_, rfl⟩, .inr ⟨_, trivial, hJx3⟩⟩
end Go.Proofs.Ytlkegoofpmgcjaa
