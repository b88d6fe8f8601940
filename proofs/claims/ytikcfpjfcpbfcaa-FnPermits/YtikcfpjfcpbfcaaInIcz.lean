/-
What is proved: slices.Insert, with the room of the list.
-/
import Derived.Test.YtikcfpjfcpbfcaaZcH
import Derived.Test.YtikcfpjfcpbfcaaZcG
import Derived.Deep.DeepCutAuto
namespace Go.Proofs.Ytikcfpjfcpbfcaa
set_option maxRecDepth 40000
open Go.ChangeShapes Go.WideShapes Go.ChangeAt Go.RowKit
set_option linter.unusedVariables false
set_option linter.unusedSimpArgs false

def InsPostC (w : World) (N n q : Nat) (X Y : Nat → Int) (K : Nat → Nat) (AA : Nat → Option Addr) (CC : Nat → Nat) (x y : Int) (a : Option Addr) (k c : Nat) (e : Ending) (w' : World) : Prop := ∃ g cap, e = .returned (.slice (some ⟨g, 0, none⟩) N cap) ∧ N ≤ cap ∧ InsP w n q X Y K AA CC x y a k c g w'
/-- Where the place is the end. -/
theorem ins_lastC {w : World} (b n lb : Nat) (X Y : Nat → Int) (K : Nat → Nat) (AA : Nat → Option Addr) (CC : Nat → Nat) (x y : Int) (a : Option Addr) (k c : Nat) (hn : n ≤ 1000) (hp : ∀ i, i < n → w.cell? ⟨b, i * 3, none⟩ = some (.int .i64 (X i)) ∧ w.cell? ⟨b, i * 3 + 1, none⟩ = some (.int .i64 (Y i)) ∧ w.cell? ⟨b, i * 3 + 2, none⟩ = some (.slice (AA i) (K i) (CC i)))
    (h0 : w.cell? ⟨lb, 0, none⟩ = some (.int .i64 x)) (h1 : w.cell? ⟨lb, 1, none⟩ = some (.int .i64 y)) (h2 : w.cell? ⟨lb, 2, none⟩ = some (.slice a k c)) :
    ∃ g cap W4, (Builtin.append_ #[34, 34] 34 #[.slice (some ⟨b, 0, none⟩) n n, .slice (some ⟨lb, 0, none⟩) 1 1]).run Try.prog w = .ok (.slice (some ⟨g, 0, none⟩) (n + 1) cap) W4 ∧ n + 1 ≤ cap ∧ InsP w n n X Y K AA CC x y a k c g W4 := by
  obtain ⟨i0, hi, hz0, hz1, hz2⟩ := info_parts info_PermitP
  obtain ⟨v', W4, hrun, hown, hgr⟩ := run_append_arg_grows (P := Try.prog) w 34 34 44 i0 (.agg #[.int .i64 0, .int .i64 0, .slice none 0 0]) 3 40 Try.underlying34 hi hz0 hz1 hz2 rfl (by decide) ⟨b, 0, none⟩ n n (ptC X Y K AA CC n) (ptC_len _ _ _ _ _ _) (fun j u hu => by rw [Addr.add_lit]; exact ptC_cells (o := 0) (fun i hi => by simp only [Nat.zero_add]; exact hp i hi) j u hu) ⟨lb, 0, none⟩ 1 1 [.int .i64 x, .int .i64 y, .slice a k c] rfl (fun j u hu => by
    rw [Addr.add_lit, Nat.zero_add]
    match j, hu with
    | 0, hu => cases hu; exact h0
    | 1, hu => cases hu; exact h1
    | 2, hu => cases hu; exact h2) (by omega) (by unfold maxLen; omega) (by omega)
  have how := hown
  rcases hown.2 with ⟨_, q⟩ | ⟨g, cap, cur, e, hb, hg, hcp, _⟩
  · omega
  · subst e
    refine ⟨g, cap, W4, hrun, hcp, hb, (Array.getElem?_eq_some_iff.1 hg).1, fun o => by simp [World.frozen?, hg], fun i hi => ?_, ⟨hgr.os, hgr.tape, hgr.output, hgr.size, fun k hk => hgr.block k hk (fun e => by cases e)⟩⟩
    have hl := ptC_len X Y K AA CC n
    rw [how.cellAt (i * 3) (by omega), how.cellAt (i * 3 + 1) (by omega), how.cellAt (i * 3 + 2) (by omega)]
    by_cases z : i < n
    · obtain ⟨r0, r1, r2⟩ := ptC_at X Y K AA CC n i z
      rw [inF_lt z, inF_lt z, inF_lt z, inF_lt z, inF_lt z, List.getElem?_append_left (by omega), List.getElem?_append_left (by omega), List.getElem?_append_left (by omega)]
      exact ⟨r0, r1, r2⟩
    · obtain rfl : i = n := by omega
      rw [inF_eq, inF_eq, inF_eq, inF_eq, inF_eq]
      refine ⟨?_, ?_, ?_⟩
      · rw [List.getElem?_append_right (by omega), hl, show i * 3 - i * 3 = 0 by omega]; rfl
      · rw [List.getElem?_append_right (by omega), hl, show i * 3 + 1 - i * 3 = 1 by omega]; rfl
      · rw [List.getElem?_append_right (by omega), hl, show i * 3 + 2 - i * 3 = 2 by omega]; rfl
set_option maxRecDepth 20000 in
set_option maxHeartbeats 8000000 in
theorem insertC_any (b n q lb N : Nat) (X Y : Nat → Int) (K : Nat → Nat) (AA : Nat → Option Addr) (CC : Nat → Nat) (x y : Int) (a : Option Addr) (k c : Nat) (w : World) (hn : n ≤ 1000) (hq : q ≤ n) (hN : N = n + 1) (hp : Hid (∀ i, i < n → w.cell? ⟨b, i * 3, none⟩ = some (.int .i64 (X i)) ∧ w.cell? ⟨b, i * 3 + 1, none⟩ = some (.int .i64 (Y i)) ∧ w.cell? ⟨b, i * 3 + 2, none⟩ = some (.slice (AA i) (K i) (CC i)))) (hb : b < w.heap.size) (hlb : lb < w.heap.size)
    (h0 : Hid (w.cell? ⟨lb, 0, none⟩ = some (.int .i64 x))) (h1 : Hid (w.cell? ⟨lb, 1, none⟩ = some (.int .i64 y))) (h2 : Hid (w.cell? ⟨lb, 2, none⟩ = some (.slice a k c))) :
    Calls Try.prog 55 #[.slice (some ⟨b, 0, none⟩) n n, .int .i64 (q : Int), .slice (some ⟨lb, 0, none⟩) 1 1] w fun e w' => InsPostC w N n q X Y K AA CC x y a k c e w' := by
  have q1 : (q : Int) ≤ (n : Int) := by omega
  have hNs : N = n + 1 := hN
  by_cases hl : q = n
  case pos =>
    subst hl
    obtain ⟨g, cap, W4, hrun, hcp, hins⟩ := ins_lastC b q lb X Y K AA CC x y a k c hn hp.out h0.out h1.out h2.out
    have HI : Hid (InsP w q q X Y K AA CC x y a k c g W4) := hins
    rw [← hNs] at hrun hcp
    have HCP : Hid (N ≤ cap) := hcp
    clear hins hN hNs hcp
    go_enter Try.func55, Try.ntmps55
    go_wp2_with (at_builtin; refine list_appP (.tmp 23) (.tmp 24) _ _ _ _ (by rfl) (by rfl) (by rfl) (by rfl) hrun ?_)
    go_ret
    exact ⟨g, cap, rfl, HCP.out, HI.out⟩
  case neg =>
    have q2 : q < n := by omega
    have q3 : (q : Int) < (n : Int) := by omega
    have qb : ((q : Int) == (n : Int)) = false := beq_false_of_ne (by omega)
    obtain ⟨k1, hk1⟩ : ∃ k1, k1 = N - q := ⟨_, rfl⟩
    obtain ⟨k2, hk2⟩ : ∃ k2, k2 = n - q := ⟨_, rfl⟩
    obtain ⟨r, hr⟩ : ∃ r, r = q + 1 := ⟨_, rfl⟩
    obtain ⟨g, cap, W2, W3, W4, hrun, hcap, hcp, hcp2, hins⟩ := ins_worlds b n q k1 k2 r N lb X Y K AA CC x y a k c hn q2 (by omega) hk2 hr hNs hp.out hb hlb h0.out h1.out h2.out
    have HI : Hid (InsP w n q X Y K AA CC x y a k c g W4) := hins
    have HCP : Hid (N ≤ cap) := hcap
    have w1 : IntKind.i64.wrap ((n : Int) + 1) = (N : Int) := by rw [IntKind.wrap_i64]; omega
    have w2 : IntKind.i64.wrap ((N : Int) - (q : Int)) = (k1 : Int) := by rw [IntKind.wrap_i64]; omega
    have w3 : IntKind.i64.wrap ((q : Int) + 1) = (r : Int) := by rw [IntKind.wrap_i64]; omega
    have e1 : (n : Int) + 1 = (N : Int) := by omega
    have e2 : (N : Int) - (q : Int) = (k1 : Int) := by omega
    have e3 : (q : Int) + 1 = (r : Int) := by omega
    have l1 : N - q = k1 := by omega
    have l2 : N - r = k2 := by omega
    have l3 : n - q = k2 := by omega
    have i1 : (n : Int) < (N : Int) := by omega
    have i2 : (q : Int) ≤ (N : Int) := by omega
    have i3 : (r : Int) ≤ (N : Int) := by omega
    have n1 : ¬ cap = q := by omega
    have n2 : ¬ cap = r := by omega
    have n3 : ¬ n = q := by omega
    have z1 : q ≤ N := by omega
    have z2 : r ≤ N := by omega
    clear hins hN hNs hk1 hk2 hr
    go_enter Try.func55, Try.ntmps55
    go_upto_region 10 with (at_builtin; refine list_growP (.tmp 34) (.tmp 39) k1 _ _ _ (by rfl) (by rfl) (by rfl) (by rfl) (hrun _) ?_)
    go_upto_region 11 with (at_builtin; refine list_copyP (.tmp 43) (.tmp 44) _ _ _ _ (by rfl) (by rfl) (by rfl) (by rfl) (hcp _ _) ?_)
    go_region
    all_goals go_wp2
    all_goals go_ret
    all_goals exact ⟨g, cap, rfl, HCP.out, HI.out⟩
end Go.Proofs.Ytikcfpjfcpbfcaa
