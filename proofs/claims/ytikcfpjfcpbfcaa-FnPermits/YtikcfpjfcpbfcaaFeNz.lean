/-
What is proved: of the fewest valves none can be left open, and a permit with them is granted in an empty book, in numbers; a list appended whole to one that the call has made.
-/
import Derived.Test.YtikcfpjfcpbfcaaFwNz
import Derived.Test.YtikcfpjfcpbfcaaFwLz
import Derived.Test.YtikcfpjfcpbfcaaZcH
import Derived.Test.YtikcfpjfcpbfcaaCuSz
import Derived.Test.YtikcfpjfcpbfcaaRisz
import Derived.Deep.AppendLies
import Derived.Laws.OwnMore
namespace Go.Proofs.Ytikcfpjfcpbfcaa
set_option maxRecDepth 40000
open Go.ChangeShapes Go.WideShapes Go.ChangeAt Go.RowKit
set_option linter.unusedVariables false
set_option linter.unusedSimpArgs false

theorem rsl_low {d : Int} : ∀ (L : List Int) (f g : Int), g ≤ f → RisL d L f → RisL d L g
  | [], _, _, _, _ => trivial
  | x :: r, f, g, h, ⟨h1, h2, h3⟩ => ⟨by omega, h2, h3⟩
theorem rsl_cut {d : Int} : ∀ (L : List Int) (f : Int) (i : Nat), RisL d L f → RisL d (L.take i ++ L.drop (i + 1)) f
  | [], f, i, _ => by simp [RisL]
  | x :: r, f, 0, ⟨h1, h2, h3⟩ => by simpa using rsl_low r (x + 1) f (by omega) h3
  | x :: r, f, i + 1, ⟨h1, h2, h3⟩ => by
    have := rsl_cut r (x + 1) i h3
    simpa using ⟨h1, h2, this⟩
theorem cut_len (L : List Int) (i : Nat) (hi : i < L.length) : (L.take i ++ L.drop (i + 1)).length = L.length - 1 := by
  rw [List.length_append, List.length_take, List.length_drop]; omega
theorem few_less {Q : List Int → Bool} {d : Nat} {L : List Int} (h : FwG Q d L) (i : Nat) (hi : i < L.length) : Q (L.take i ++ L.drop (i + 1)) = false := by
  cases e : Q (L.take i ++ L.drop (i + 1))
  · rfl
  · have hc := h.2.2 _ (rsl_cut L 0 i h.1) e
    unfold caM at hc
    rw [if_neg (by rw [cut_len L i hi]; omega)] at hc
    have := of_decide_eq_false hc
    rw [cut_len L i hi] at this
    omega
theorem rsl_in {d : Int} : ∀ (L : List Int) (f : Int), RisL d L f → (∀ j, j < L.length → f ≤ nthI L j ∧ nthI L j < d) ∧ ∀ j, j + 1 < L.length → nthI L j < nthI L (j + 1)
  | [], _, _ => ⟨fun j h => absurd h (Nat.not_lt_zero _), fun j h => absurd h (Nat.not_lt_zero _)⟩
  | x :: r, f, ⟨h1, h2, h3⟩ => by
    obtain ⟨a, b⟩ := rsl_in r (x + 1) h3
    refine ⟨fun j hj => ?_, fun j hj => ?_⟩
    · cases j with
      | zero => exact ⟨h1, h2⟩
      | succ j => have := a j (by simpa using hj); exact ⟨by show f ≤ nthI r j; omega, this.2⟩
    · cases j with
      | zero =>
        have := a 0 (by simpa using hj)
        show x < nthI r 0
        omega
      | succ j => exact b j (by simpa using hj)
theorem cutB_yes {p : Int} {n : Nat} {D : Nat → Int × Int} {m : Nat} {S : Nat → Int} {k : Nat} {Q : Nat → Int} {x : Int} (h : cutB p n D m S k Q x = true) : netB p n D m S = true ∧ inB 0 (p - 1) x = true := by
  unfold cutB at h
  simp only [Bool.and_eq_true] at h
  exact ⟨h.1, h.2.1⟩
theorem few_grant {p : Int} {n : Nat} {D : Nat → Int × Int} {m : Nat} {S : Nat → Int} {x : Int} {L : List Int} (h : FwG (cutL p n D m S x) n L) (X Y : Nat → Int) (K : Nat → Nat) (V : Nat → Nat → Int) : bokB p n D m S 0 X Y K V = true ∧ refV p n D m S 0 X Y 1 x L.length (nthI L) = 0 ∧ InsAt 0 X 1 0 := by
  have hc : cutB p n D m S L.length (nthI L) x = true := h.2.1
  obtain ⟨h1, h2⟩ := cutB_yes hc
  obtain ⟨r1, r2⟩ := rsl_in L 0 h.1
  have hr : risB (nthI L) L.length = true := decide_eq_true fun j _ hj => r2 j hj
  have ha : allInB 0 ((n : Int) - 1) (nthI L) L.length = true := by
    unfold allInB
    refine decide_eq_true fun j hj => ?_
    have := r1 j hj
    first
      | exact ⟨this.1, by omega⟩
      | (unfold inB; simp; omega)
  refine ⟨?_, ?_, Nat.le_refl _, fun j hj => absurd hj (Nat.not_lt_zero _), fun j _ hj => absurd hj (Nat.not_lt_zero _)⟩
  · unfold bokB
    rw [h1]
    simp
  · have hf : fmB p n 1 x L.length (nthI L) = true := by
      unfold fmB
      rw [h2, hr, ha]
      decide
    have hn : hasB X 0 1 = false := decide_eq_false fun ⟨j, a, _⟩ => absurd a (Nat.not_lt_zero _)
    have hfr : freeB Y 0 x = true := decide_eq_true fun j hj => absurd hj (Nat.not_lt_zero _)
    unfold refV
    rw [if_pos hf, hn, if_pos hfr, if_pos hc]
    rfl
/-- A list appended whole to a list that the call has made, in a region that draws its order. -/
theorem wp_joinL {o : Oper} {a : Act} {KK : Act → World → Prop} {Q : Exit → Act → World → Prop} {W : World} (base : Nat) (v : Value) (l : List Int) (sx : Option Addr) (n c : Nat) (X : List Int) (s z : Operand)
    (ho : o.op = .call { callee := .builtin .append, args := #[s, z], argTypes := #[23, 23] }) (hs : a.eval s = v) (hx : a.eval z = .slice sx n c) (hXn : X.length = n) (hn : n ≤ 100000) (hl : l.length ≤ 100000) (hb : base ≤ W.heap.size) (hown : OwL base W v l) (R : RowI W sx n (nthI X))
    (h : ∀ s' cap w', OwL base w' (.slice s' (l.length + n) cap) (l ++ X) → Below base W w' → (∀ g, g < W.heap.size → v.ownBlock ≠ some g → w'.heap[g]? = W.heap[g]?) → KK (a.put o.dst (.slice s' (l.length + n) cap)) w') : o.wp Try.prog a W KK Q := by
  subst hXn
  obtain ⟨i0, hi, hz0, hz1, hz2⟩ := info_parts info_i64
  have hrun : ∃ s' cap w', (Builtin.append_ #[23, 23] o.type #[v, .slice sx X.length c]).run Try.prog W = .ok (.slice s' (l.length + X.length) cap) w' ∧ OwL base w' (.slice s' (l.length + X.length) cap) (l ++ X) ∧ Below base W w' ∧ ∀ g, g < W.heap.size → v.ownBlock ≠ some g → w'.heap[g]? = W.heap[g]? := by
    cases sx with
    | some ad =>
      obtain ⟨v', w', h1, h2, h3, _⟩ := run_append_own (P := Try.prog) (w := W) base 23 o.type 2 i0 (.int .i64 0) 1 8 Try.underlying23 hi hz0 hz1 hz2 rfl (by decide) v l.length (cellsOf l) hown ad X.length c (vals (nthI X) X.length) (by rw [vals_length, Nat.mul_one]) (row_addF R) (by
        intro u hu
        simp only [vals, List.mem_map] at hu
        obtain ⟨j, _, rfl⟩ := hu
        rfl) (by unfold maxLen; omega) (by omega) hb
      have h2' : OwL base w' v' (l ++ X) := by
        unfold OwL
        rw [List.length_append]
        rw [vals_nth] at h2
        have e : cellsOf (l ++ X) = cellsOf l ++ cellsOf X := by simp [cellsOf]
        rw [e]
        exact h2
      obtain ⟨s', cap, e, _⟩ := h2'.own
      rw [List.length_append] at e
      subst e
      exact ⟨s', cap, w', h1, h2', grown_below h3 hb (own_block hown), fun g hg hn => h3.block g hg (fun e => hn e.symm)⟩
    | none =>
      have e : X.length = 0 := by
        rcases Nat.eq_zero_or_pos X.length with q | q
        · exact q
        · obtain ⟨b, o, e, _⟩ := R 0 (by omega)
          cases e
      have e2 : X = [] := List.length_eq_zero_iff.1 e
      subst e2
      obtain ⟨s', cap, e3, _⟩ := hown.own
      subst e3
      refine ⟨s', cap, W, run_append_noneF (P := Try.prog) (w := W) base 23 o.type 2 i0 1 Try.underlying23 hi _ l.length c _ hown, ?_, Below.refl _ _, fun g _ _ => rfl⟩
      simpa using hown
  obtain ⟨s', cap, w', h1, h2, h3, h4⟩ := hrun
  unfold Oper.wp execOp
  simp only [ho, resolve, invoke, builtin, Sem.run_bind, Sem.run_pure, Result.andThen_ok, List.map_toArray, List.map_cons, List.map_nil, hs, hx, h1]
  exact h s' cap w' h2 h3 h4
theorem Blk.farJ {w w' : World} {b : Nat} {cs : List Value} {v : Value} (h : Blk w b cs) (hf : ∀ q, q < w.heap.size → v.ownBlock ≠ some q → w'.heap[q]? = w.heap[q]?) (hz : w.heap.size ≤ w'.heap.size) (hn : v.ownBlock ≠ some b) : Blk w' b cs := by
  have e := hf b h.1 hn
  exact ⟨Nat.lt_of_lt_of_le h.1 hz, fun o => (World.frozen?_of_block (a := ⟨b, o, none⟩) e).trans (h.2.1 o), fun i u q => (World.cell?_of_block (a := ⟨b, i, none⟩) e).trans (h.2.2 i u q)⟩
end Go.Proofs.Ytikcfpjfcpbfcaa
