/-
What is proved: whether a quiet alarm is alone in its group, as the specification asks it; a list of alarms copied behind an empty one.
-/
import Derived.Test.YtlbbdifmjdpfiaaBsMz
import Derived.Test.YtlbbdifmjdpfiaaBsCz
import Derived.BigQuiet
import Derived.Laws.OwnMore
import Derived.Deep.AppendLies
import Derived.Maps.AppendAt
namespace Go.Proofs.Ytlbbdifmjdpfiaa
set_option maxRecDepth 40000
open Go.ChangeShapes Go.WideShapes Go.ChangeAt Go.RowKit
set_option linter.unusedVariables false
set_option linter.unusedSimpArgs false

set_option maxRecDepth 20000 in
set_option maxHeartbeats 4000000 in
theorem l21Alone_any (s : Option Addr) (n c i : Nat) (V : Nat → Int × Int × Int × Bool × Int) (w : World) (hn : (n : Int) ≤ 60) (hi : i < n) (hT : (V i).2.2.1 = 0) (HR : Hid (RowAlarm w s n V)) :
    Calls Try.prog 65 #[.slice s n c, .int .i64 (i : Int)] w fun e w' => e = .returned (.bool (aloB V n (V i).1)) ∧ Below w.heap.size w w' := by
  obtain ⟨gI, hgI⟩ : ∃ gI, (V i).1 = gI := ⟨_, rfl⟩
  have HGI : Hid ((V i).1 = gI) := hgI
  have HTI : Hid ((V i).2.2.1 = 0) := hT
  rw [hgI]
  clear hgI hT
  have iN : (i : Int) < (n : Int) := by omega
  go_enter Try.func65, Try.ntmps65
  go_wp2_with fail
  go_loopw [5] (fun v wr => ∃ k : Nat, k ≤ n ∧ v = .int .i64 k ∧ Hid (∀ j, j < k → ¬ ((V j).1 = gI ∧ (V j).2.2.1 ≠ 0)) ∧ Below w.heap.size w wr) (fun v _ => n - (intOf v).toNat)
  case atStart => exact ⟨0, Nat.zero_le _, rfl, fun j hj => by omega, Below.refl _ _⟩
  case round =>
    obtain ⟨k, hk, rfl, HP, hB⟩ := hrel
    have zW := hB.size
    by_cases h1 : k < n
    · obtain ⟨g, o, rfl, hg, c0, c1, c2, c3, c4⟩ := HR.out k (by omega)
      replace c0 := (hB.cell (p := ⟨g, o + k * 5, none⟩) hg).trans c0
      replace c1 := (hB.cell (p := ⟨g, o + k * 5 + 1, none⟩) hg).trans c1
      replace c2 := (hB.cell (p := ⟨g, o + k * 5 + 2, none⟩) hg).trans c2
      replace c3 := (hB.cell (p := ⟨g, o + k * 5 + 3, none⟩) hg).trans c3
      replace c4 := (hB.cell (p := ⟨g, o + k * 5 + 4, none⟩) hg).trans c4
      have zg : g < wr.heap.size := Nat.lt_of_lt_of_le hg hB.size
      obtain ⟨⟨G, O, T, F, U⟩, hV⟩ : ∃ z, V k = z := ⟨_, rfl⟩
      rw [hV] at c0 c1 c2 c3 c4
      simp only at c0 c1 c2 c3 c4
      have HV : Hid (V k = (G, O, T, F, U)) := hV
      obtain ⟨g', o', e', hg', a0, -⟩ := HR.out i hi
      cases e'
      replace a0 := (hB.cell (p := ⟨g, o + i * 5, none⟩) hg').trans a0
      rw [HGI.out] at a0
      have k1 : (k : Int) < (n : Int) := by omega
      clear hV hg hg'
      by_cases e : k = i
      · subst e
        have HN : Hid (∀ j, j < k + 1 → ¬ ((V j).1 = gI ∧ (V j).2.2.1 ≠ 0)) := ball_succ HP.out (fun q => q.2 HTI.out)
        go_wp2_with fail
        go_quiet (fail)
        go_wp2
        go_roundw
        case rel => exact ⟨k + 1, by omega, by go_num, HN.out, (by repeat (first | with_reducible exact Below.refl _ _ | with_reducible exact hB | with_reducible refine Below.setCell ?_ (by first | omega | (simp; done) | (simp; omega)) _ | with_reducible refine bDrewN ?_ _ | with_reducible refine Below.drew ?_ | with_reducible refine Below.alloc ?_ (by first | omega | (simp; done) | (simp; omega)) _))⟩
        case measure => first | (simp [intOf]; done) | (simp [intOf]; omega)
      have ne1 : (k != i) = true := by simpa using e
      have ne2 : ((k : Int) != (i : Int)) = true := by simp; omega
      by_cases q : G = gI
      case neg =>
        have q' : (G == gI) = false := by simpa using q
        have HN : Hid (∀ j, j < k + 1 → ¬ ((V j).1 = gI ∧ (V j).2.2.1 ≠ 0)) := ball_succ HP.out (fun r => q (by have := r.1; rw [HV.out] at this; exact this))
        clear q e
        go_wp2_with fail
        go_quiet (fail)
        go_wp2
        go_roundw
        case rel => exact ⟨k + 1, by omega, by go_num, HN.out, (by repeat (first | with_reducible exact Below.refl _ _ | with_reducible exact hB | with_reducible refine Below.setCell ?_ (by first | omega | (simp; done) | (simp; omega)) _ | with_reducible refine bDrewN ?_ _ | with_reducible refine Below.drew ?_ | with_reducible refine Below.alloc ?_ (by first | omega | (simp; done) | (simp; omega)) _))⟩
        case measure => first | (simp [intOf]; done) | (simp [intOf]; omega)
      have q' : (G == gI) = true := by simpa using q
      by_cases t : T = 0
      · have t' : (T != 0) = false := by simp [t]
        have HN : Hid (∀ j, j < k + 1 → ¬ ((V j).1 = gI ∧ (V j).2.2.1 ≠ 0)) := ball_succ HP.out (fun r => r.2 (by rw [HV.out]; exact t))
        clear q e t
        go_wp2_with fail
        go_quiet (fail)
        go_wp2
        go_roundw
        case rel => exact ⟨k + 1, by omega, by go_num, HN.out, (by repeat (first | with_reducible exact Below.refl _ _ | with_reducible exact hB | with_reducible refine Below.setCell ?_ (by first | omega | (simp; done) | (simp; omega)) _ | with_reducible refine bDrewN ?_ _ | with_reducible refine Below.drew ?_ | with_reducible refine Below.alloc ?_ (by first | omega | (simp; done) | (simp; omega)) _))⟩
        case measure => first | (simp [intOf]; done) | (simp [intOf]; omega)
      · have t' : (T != 0) = true := by simp [t]
        have HO : Hid (aloB V n gI = false) := decide_eq_false fun h => h k h1 (by rw [HV.out]; exact ⟨q, t⟩)
        clear q e t
        go_wp2_with fail
        go_quiet (fail)
        go_wp2
        go_ret
        exact ⟨ret_bool HO.out.symm, (by repeat (first | with_reducible exact Below.refl _ _ | with_reducible exact hB | with_reducible refine Below.setCell ?_ (by first | omega | (simp; done) | (simp; omega)) _ | with_reducible refine bDrewN ?_ _ | with_reducible refine Below.drew ?_ | with_reducible refine Below.alloc ?_ (by first | omega | (simp; done) | (simp; omega)) _))⟩
    · obtain rfl : k = n := by omega
      have HO : Hid (aloB V k gI = true) := decide_eq_true HP.out
      go_wp2
      go_ret
      exact ⟨ret_bool HO.out.symm, hB⟩
theorem info_al : (Try.prog.info? 43).map (fun i => (i.zero, i.size, decide (i.bytes ≤ 80))) = some (some (.agg #[.int .i64 0, .int .i64 0, .int .i64 0, .bool false, .int .i64 0]), 5, true) := by kernel_rfl
theorem own_lit {W : World} {H : Nat} (h : W.heap[H]? = some (.cells #[] 43 (0, 0))) {base : Nat} (hb : base ≤ H) : W.ownsRow base 43 5 (.slice (some ⟨H, 0, none⟩) 0 0) 0 [] :=
  ⟨by simp, .inr ⟨H, 0, #[], rfl, hb, h, by simp, by simp, by simp [maxLen], by simp⟩⟩
/-- The alarms that a call owns, in their block. -/
theorem own_alM {W : World} {base n : Nat} {V : Nat → Int × Int × Int × Bool × Int} {g cap : Nat} (h : W.ownsRow base 43 5 (.slice (some ⟨g, 0, none⟩) n cap) n (alC V n)) (hg : g < W.heap.size) : AlM g W n V := by
  refine ⟨hg, fun o => h.frozenAt o, fun j hj => ?_⟩
  have e := fun i (hi : i < 5) => (h.cellAt (j * 5 + i) (by omega)).trans (alC_at V hj hi)
  exact ⟨by simpa using e 0 (by omega), by simpa using e 1 (by omega), by simpa using e 2 (by omega), by simpa using e 3 (by omega), by simpa using e 4 (by omega)⟩
/-- The alarms of a list behind an empty one, as one step of a region that draws. -/
theorem step_cloneA {ops : Array Oper} {o : Oper} {a : Act} {K : Act → World → Prop} {Q : Exit → Act → World → Prop} {E : Prop} {W : World} (hgd : o.guard = none) (s x : Operand)
    (ho : o.op = .call { callee := .builtin .append, args := #[s, x], argTypes := #[24, 24] }) (H : Nat) (sx : Option Addr) (n c : Nat) (V : Nat → Int × Int × Int × Bool × Int) (hs : a.eval s = .slice (some ⟨H, 0, none⟩) 0 0) (hx : a.eval x = .slice sx n c) (hl : W.heap[H]? = some (.cells #[] 43 (0, 0))) (HR : RowAlarm W sx n V) (hn : n ≤ 60)
    (h : ∀ g cap w', (g = H ∨ W.heap.size ≤ g) → AlM g w' n V → W.grownBy w' (some H) → K (a.put o.dst (.slice (some ⟨g, 0, none⟩) n cap)) w') : if Region.wanted o (yielded ops a.tmps) = true then Oper.wp Try.prog o a W K Q else E := by
  have hw : Region.wanted o (yielded ops a.tmps) = true := by simp [Region.wanted, hgd]
  rw [if_pos hw]
  obtain ⟨i0, hi, hzz⟩ := Option.map_eq_some_iff.1 info_al
  simp only [Prod.mk.injEq, decide_eq_true_eq] at hzz
  obtain ⟨hz0, hz1, hz2⟩ := hzz
  have hH : H < W.heap.size := (Array.getElem?_eq_some_iff.1 hl).1
  have hown := own_lit hl (Nat.le_refl H)
  cases sx with
  | none =>
    have n0 : n = 0 := by
      rcases Nat.eq_zero_or_pos n with z | z
      · exact z
      · obtain ⟨b, o, e, _⟩ := HR 0 z
        cases e
    subst n0
    have hr : (Builtin.append_ #[24, 24] o.type #[.slice (some ⟨H, 0, none⟩) 0 0, .slice none 0 c]).run Try.prog W = .ok (.slice (some ⟨H, 0, none⟩) 0 0) W := by
      simp [Builtin.append_, run_underlying Try.underlying24, sizeOf, typeInfo, hi, Builtin.lenOf, Builtin.firstCells, storeCells]
    unfold Oper.wp execOp
    simp only [ho, resolve, invoke, builtin, Sem.run_bind, Sem.run_pure, Result.andThen_ok, List.map_toArray, List.map_cons, List.map_nil, hs, hx, hr]
    exact h H 0 W (.inl rfl) ⟨hH, fun o => by simp [World.frozen?, hl], fun j hj => by omega⟩ ⟨rfl, rfl, rfl, Nat.le_refl _, fun _ _ _ => rfl⟩
  | some ad =>
    have hnews : ∀ j u, (alC V n)[j]? = some u → W.cell? (ad.add j) = some u := by
      rcases Nat.eq_zero_or_pos n with z | z
      · subst z
        intro j u hu
        simp [alC] at hu
      · obtain ⟨b, o, e, _⟩ := HR 0 z
        cases e
        exact src_at HR
    obtain ⟨v', w', hr, o1, gr, hv, h5⟩ := run_append_own_at (P := Try.prog) W H 24 o.type 43 i0 _ 5 i0.bytes Try.underlying24 hi hz0 hz1 rfl rfl (by decide) _ 0 [] hown ad n c (alC V n) (alC_len V n) hnews (alC_one V n) (by unfold maxLen; omega) (by rw [Nat.zero_add]; have := Nat.mul_le_mul hn hz2; omega) (Nat.le_of_lt hH)
    rw [Nat.zero_add, List.nil_append] at o1
    have hv' : v' ≠ .slice none 0 0 := fun q => by
      have := (hv.1 q).1
      cases this
    unfold Oper.wp execOp
    simp only [ho, resolve, invoke, builtin, Sem.run_bind, Sem.run_pure, Result.andThen_ok, List.map_toArray, List.map_cons, List.map_nil, hs, hx, hr]
    rcases o1.2 with ⟨q, _⟩ | ⟨g, cap, cur, e1, hb, hg, _⟩
    · exact absurd q hv'
    · subst e1
      refine h g cap w' ?_ (own_alM o1 ((Array.getElem?_eq_some_iff.1 hg).1)) gr
      rcases h5 with h5 | h5
      · left; simpa [Value.ownBlock] using h5
      · right; have : g = W.heap.size := by simpa [Value.ownBlock] using h5
        omega
end Go.Proofs.Ytlbbdifmjdpfiaa
