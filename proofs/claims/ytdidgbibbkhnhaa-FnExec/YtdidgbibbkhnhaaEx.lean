/-
What is proved: code run, in numbers; a stack of numbers in memory, one laid on it.
-/
import Derived.Test.YtdidgbibbkhnhaaCo
import Derived.Test.YtdidgbibbkhnhaaGv
import Derived.Test.YtdidgbibbkhnhaaOwnV
import Derived.ArgAppend
namespace Go.Proofs.Ytdidgbibbkhnhaa
set_option maxRecDepth 40000
open Go.RowKit
set_option linter.unusedVariables false
set_option linter.unusedSimpArgs false

/-- One laid on a stack of h. -/
def puF (F : Nat → Int) (h : Nat) (x : Int) : Nat → Int := fun j => if j = h then x else F j
def seF (N : Nat → Int) (m : Nat) (x : Int) : Nat → Int := fun j => if j = m then x else N j
structure ExT where
  h : Nat
  F : Nat → Int
  N : Nat → Int
def exN (O I : Nat → Int) (s : ExT) (op n : Int) : ExT :=
  if op = 1 then ⟨s.h + 1, puF s.F s.h (s.N n.toNat), s.N⟩ else if op = 2 then ⟨s.h + 1, puF s.F s.h (O n.toNat), s.N⟩ else if op = 3 then ⟨s.h + 1, puF s.F s.h n, s.N⟩ else if op = 4 then ⟨s.h + 1, puF s.F s.h (I n.toNat), s.N⟩
  else if op = 5 then ⟨s.h - (tkL (n.toNat - 1)).length + 1, puF s.F (s.h - (tkL (n.toNat - 1)).length) (clipV (gvV n (s.F (s.h - (tkL (n.toNat - 1)).length)) (s.F (s.h - (tkL (n.toNat - 1)).length + 1)) (s.F (s.h - (tkL (n.toNat - 1)).length + 2)))), s.N⟩
  else ⟨s.h - 1, s.F, seF s.N n.toNat (s.F (s.h - 1))⟩
def exK (V O I : Nat → Int) : Nat → ExT
  | 0 => ⟨0, fun _ => 0, fun _ => 0⟩
  | k + 1 => exN O I (exK V O I k) (V (k * 2)) (V (k * 2 + 1))
def smB (n : Nat) (V : Nat → Int) : Bool := decide (∀ j, j < n → inB (-1000000) 1000000 (V j) = true)
def exB (n : Nat) (V : Nat → Int) (a : Nat) (O : Nat → Int) (b : Nat) (I : Nat → Int) : Bool := codeB n V (a : Int) (b : Int) && (smB a O && smB b I)
theorem sm_yes {n : Nat} {V : Nat → Int} (h : smB n V = true) : ∀ j, j < n → -1000000 ≤ V j ∧ V j ≤ 1000000 := fun j hj => inB_yes (of_decide_eq_true h j hj)
theorem code_yes {n : Nat} {V : Nat → Int} {C I : Int} (h : codeB n V C I = true) : n ≤ 500 ∧ (0 ≤ C ∧ C ≤ 60) ∧ (0 ≤ I ∧ I ≤ 60) ∧ (∀ j, j < n → coJ C I V j = true) ∧ (coK V n).2 = 0 := by
  unfold codeB at h
  simp only [Bool.and_eq_true, decide_eq_true_iff] at h
  exact ⟨h.1, inB_yes h.2.1, inB_yes h.2.2.1, h.2.2.2.1, h.2.2.2.2⟩
/-- What holds along a run: the stack is as high as was told, and all its numbers are small. -/
def exOk (a : Nat) (h : Int) (s : ExT) : Prop := (s.h : Int) = h ∧ (∀ j, j < s.h → -1000000 ≤ s.F j ∧ s.F j ≤ 1000000) ∧ ∀ j, j < a → -1000000 ≤ s.N j ∧ s.N j ≤ 1000000
theorem pu_ok {F : Nat → Int} {h : Nat} {x : Int} (hF : ∀ j, j < h → -1000000 ≤ F j ∧ F j ≤ 1000000) (hx : -1000000 ≤ x ∧ x ≤ 1000000) : ∀ j, j < h + 1 → -1000000 ≤ puF F h x j ∧ puF F h x j ≤ 1000000 := fun j hj => by
  unfold puF
  by_cases e : j = h
  · rw [if_pos e]; exact hx
  · rw [if_neg e]; exact hF j (by omega)
theorem ex_next {a b : Nat} {O I : Nat → Int} {K : Nat → Bool} {h op n : Int} {s : ExT} (hO : ∀ j, j < a → -1000000 ≤ O j ∧ O j ≤ 1000000) (hI : ∀ j, j < b → -1000000 ≤ I j ∧ I j ≤ 1000000) (hc : ctB (a : Int) (b : Int) K h op n = true) (hs : exOk a h s) : exOk a (nxH h op n) (exN O I s op n) := by
  obtain ⟨hb, ht, -⟩ := ct_yes hc
  obtain ⟨s1, s2, s3⟩ := hs
  unfold cbB at hb
  unfold exN nxH
  by_cases o1 : op = 1
  · subst o1
    rw [if_pos (by omega)] at hb
    obtain ⟨n0, n1⟩ := inB_yes hb
    rw [if_pos rfl]
    exact ⟨by show ((s.h + 1 : Nat) : Int) = h - 0 + 1; omega, pu_ok s2 (s3 _ (by omega)), s3⟩
  by_cases o2 : op = 2
  · subst o2
    rw [if_pos (by omega)] at hb
    obtain ⟨n0, n1⟩ := inB_yes hb
    rw [if_neg (by omega), if_pos rfl]
    exact ⟨by show ((s.h + 1 : Nat) : Int) = h - 0 + 1; omega, pu_ok s2 (hO _ (by omega)), s3⟩
  by_cases o3 : op = 3
  · subst o3
    rw [if_neg (by omega), if_pos rfl] at hb
    rw [if_neg (by omega), if_neg (by omega), if_pos rfl]
    exact ⟨by show ((s.h + 1 : Nat) : Int) = h - 0 + 1; omega, pu_ok s2 (inB_yes hb), s3⟩
  by_cases o4 : op = 4
  · subst o4
    rw [if_neg (by omega), if_neg (by omega), if_pos rfl] at hb
    obtain ⟨n0, n1⟩ := inB_yes hb
    rw [if_neg (by omega), if_neg (by omega), if_neg (by omega), if_pos rfl]
    exact ⟨by show ((s.h + 1 : Nat) : Int) = h - 0 + 1; omega, pu_ok s2 (hI _ (by omega)), s3⟩
  by_cases o5 : op = 5
  · subst o5
    rw [if_neg (by omega), if_neg (by omega), if_neg (by omega), if_neg (by omega), if_pos rfl]
    have et : tkO 5 n = ((tkL (n.toNat - 1)).length : Int) := rfl
    rw [et] at ht ⊢
    obtain ⟨t, hT⟩ : ∃ t, (tkL (n.toNat - 1)).length = t := ⟨_, rfl⟩
    rw [hT] at ht ⊢
    exact ⟨by show ((s.h - t + 1 : Nat) : Int) = h - (t : Int) + 1; omega, pu_ok (fun j hj => s2 j (by omega)) (clip_rng _), s3⟩
  by_cases o6 : op = 6
  · subst o6
    rw [if_pos (by omega)] at hb
    obtain ⟨n0, n1⟩ := inB_yes hb
    rw [if_neg (by omega), if_neg (by omega), if_neg (by omega), if_neg (by omega), if_neg (by omega)]
    have et : tkO 6 n = 1 := rfl
    rw [et] at ht ⊢
    refine ⟨by show ((s.h - 1 : Nat) : Int) = h - 1 + 0; omega, fun j hj => s2 j (by show j < s.h; have : j < s.h - 1 := hj; omega), fun j hj => ?_⟩
    show -1000000 ≤ seF s.N n.toNat (s.F (s.h - 1)) j ∧ seF s.N n.toNat (s.F (s.h - 1)) j ≤ 1000000
    unfold seF
    by_cases e : j = n.toNat
    · rw [if_pos e]; exact s2 _ (by omega)
    · rw [if_neg e]; exact s3 j hj
  · rw [if_neg (by omega), if_neg o3, if_neg o4, if_neg o5] at hb
    cases hb
theorem ex_ok {n a b : Nat} {V O I : Nat → Int} (hO : ∀ j, j < a → -1000000 ≤ O j ∧ O j ≤ 1000000) (hI : ∀ j, j < b → -1000000 ≤ I j ∧ I j ≤ 1000000) : ∀ k, (∀ j, j < k → coJ (a : Int) (b : Int) V j = true) → exOk a (coK V k).2 (exK V O I k)
  | 0, _ => ⟨rfl, fun j hj => absurd hj (Nat.not_lt_zero j), fun j _ => by show -1000000 ≤ (0 : Int) ∧ (0 : Int) ≤ 1000000; omega⟩
  | k + 1, h => ex_next (K := (coK V k).1) hO hI (h k (by omega)) (ex_ok (n := n) hO hI k (fun j hj => h j (by omega)))
/-- A stack in memory: h numbers, in a block from B on, its room as told. -/
def StkI (B : Nat) (W : World) (v : Value) (h : Nat) (F : Nat → Int) : Prop := (v = .slice none 0 0 ∧ h = 0) ∨ ∃ g cap, v = .slice (some ⟨g, 0, none⟩) h cap ∧ B ≤ g ∧ g < W.heap.size ∧ h ≤ cap ∧ (∀ o, W.frozen? ⟨g, o, none⟩ = false) ∧ (∀ j, j < h → W.cell? ⟨g, j, none⟩ = some (.int .i64 (F j))) ∧ ∀ j, j < cap → (W.cell? ⟨g, j, none⟩).isSome = true
theorem StkI.same {B h : Nat} {W W' : World} {v : Value} {F : Nat → Int} (s : StkI B W v h F) (hs : W.heap.size ≤ W'.heap.size) (hb : ∀ g, v.ownBlock = some g → W'.heap[g]? = W.heap[g]?) : StkI B W' v h F := by
  rcases s with s | ⟨g, cap, rfl, h1, h2, h3, h4, h5, h6⟩
  · exact .inl s
  · have e := hb g rfl
    exact .inr ⟨g, cap, rfl, h1, Nat.lt_of_lt_of_le h2 hs, h3, fun o => (World.frozen?_of_block (w := W) e).trans (h4 o), fun j hj => (World.cell?_of_block (w := W) e).trans (h5 j hj), fun j hj => by rw [World.cell?_of_block (w := W) (a := ⟨g, j, none⟩) e]; exact h6 j hj⟩
theorem StkI.lt {B h : Nat} {W : World} {v : Value} {F : Nat → Int} (s : StkI B W v h F) : ∀ g, v.ownBlock = some g → B ≤ g ∧ g < W.heap.size := by
  intro g hg
  rcases s with ⟨rfl, _⟩ | ⟨g', cap, rfl, h1, h2, _⟩
  · cases hg
  · cases hg; exact ⟨h1, h2⟩
theorem StkI.below {B h : Nat} {W W' : World} {v : Value} {F : Nat → Int} (s : StkI B W v h F) (hb : Below W.heap.size W W') : StkI B W' v h F := s.same hb.size fun g hg => hb.block g (s.lt g hg).2
theorem StkI.beside {B h r : Nat} {W W' : World} {v : Value} {F : Nat → Int} (s : StkI B W v h F) (hb : Beside r W W') (hr : r < B) : StkI B W' v h F := s.same hb.2.2.2.1 fun g hg => hb.2.2.2.2 g (s.lt g hg).2 (by have := (s.lt g hg).1; omega)
theorem stk_own {B B' h : Nat} {W : World} {v : Value} {F : Nat → Int} (hB : B ≤ B') (ho : W.ownsRow B' 2 1 v h (vals F h)) : StkI B W v h F := by
  rcases ho with ⟨hl, ⟨rfl, rfl⟩ | ⟨g, cap, cur, rfl, h1, h2, h3, h4, h5, h6⟩⟩
  · exact .inl ⟨rfl, rfl⟩
  · have zg := (Array.getElem?_eq_some_iff.1 h2).1
    have ce : ∀ j, W.cell? ⟨g, j, none⟩ = cur[j]? := fun j => by simp [World.cell?, h2]
    refine .inr ⟨g, cap, rfl, by omega, zg, h3, fun o => by simp [World.frozen?, h2], fun j hj => ?_, fun j hj => ?_⟩
    · rw [ce]
      have : (cur.toList.take (h * 1))[j]? = some (.int .i64 (F j)) := by rw [h6, vals_at F hj]
      rw [List.getElem?_take_of_lt (by omega)] at this
      simpa using this
    · rw [ce]
      simp
      omega
theorem vals_push (F : Nat → Int) (h : Nat) (x : Int) : vals F h ++ [.int .i64 x] = vals (puF F h x) (h + 1) := by
  rw [vals_succ]
  congr 1
  · exact vals_congr fun j hj => by unfold puF; rw [if_neg (by omega)]
  · unfold puF; rw [if_pos rfl]
theorem list_push {ops : Array Oper} {rest : List Oper} {o : Oper} {a : Act} {Q : Exit → Act → World → Prop} {W : World} {t : TypeId} {x : Int} (B : Nat) (v : Value) (h : Nat) (F : Nat → Int) (s z : Operand) (hgd : o.guard = none)
    (ho : o.op = .call { callee := .builtin .append, args := #[s, z], argTypes := #[25, 25] }) (hs : a.eval s = v) (hx : a.eval z = .slice (some ⟨W.heap.size, 0, none⟩) 1 1) (S : StkI B W v h F) (hB : B ≤ W.heap.size) (hh : h ≤ 10000)
    (k : ∀ s' cap' w', StkI B w' (.slice s' (h + 1) cap') (h + 1) (puF F h x) → Below B W w' → wpList Try.prog ops Q rest (a.put o.dst (.slice s' (h + 1) cap')) w') :
    wpList Try.prog ops Q (o :: rest) a (W.alloc (.cells #[.int .i64 x] t)) := by
  obtain ⟨i0, hi, hz0, hz1, hz2⟩ := info_parts info_i64
  rcases S with ⟨rfl, rfl⟩ | ⟨g, cap, rfl, h1, h2, h3, h4, h5, h6⟩
  · refine list_i64 (x := x) B _ 0 [] s z hgd ho hs hx (World.ownsRow_nil W B 2 1) (by omega) hB ?_
    intro g cap w' ho' hg _
    exact k _ _ w' (stk_own (Nat.le_refl _) (by have e := vals_push F 0 x; simp only [vals, List.range_zero, List.map_nil, List.nil_append] at e ⊢; rw [← e]; exact ho')) (grown_below hg hB (fun r hr => by cases hr))
  · have zA : g < (W.alloc (.cells #[.int .i64 x] t)).heap.size := by simp; omega
    have bA : Below W.heap.size W (W.alloc (.cells #[.int .i64 x] t)) := below0 _ _
    have cA : ∀ j, (W.alloc (.cells #[.int .i64 x] t)).cell? ⟨g, j, none⟩ = W.cell? ⟨g, j, none⟩ := fun j => bA.cell (p := ⟨g, j, none⟩) h2
    have fA : ∀ j, (W.alloc (.cells #[.int .i64 x] t)).frozen? ⟨g, j, none⟩ = false := fun j => (bA.frozen (p := ⟨g, j, none⟩) h2).trans (h4 j)
    refine wpList_append_arg _ hgd s z 25 ho 2 i0 (.int .i64 0) 1 8 Try.underlying25 hi hz0 hz1 hz2 rfl (by decide) g 0 h cap (vals F h) hs (by rw [vals_length, Nat.mul_one]) ?_ ⟨W.heap.size, 0, none⟩ 1 1 [.int .i64 x] hx rfl (newsOne _ _ _) ?_ ?_ (by unfold maxLen; omega) (by omega) ?_ ?_
    · intro j u hj
      by_cases q : j < h
      · rw [vals_at F q] at hj
        rw [Nat.zero_add, cA, h5 j q]; exact hj
      · have := (List.getElem?_eq_some_iff.1 hj).1
        rw [vals_length] at this; omega
    · intro u hu
      simp at hu
      subst hu; rfl
    · intro hc j hj
      simp at hj
      subst hj
      exact ⟨by rw [cA]; exact h6 _ (by omega), fA _⟩
    · intro hc
      have e : (W.alloc (.cells #[.int .i64 x] t)).setCells g (0 + h * 1) [.int .i64 x] = (W.alloc (.cells #[.int .i64 x] t)).setCell ⟨g, h, none⟩ (.int .i64 x) := by simp [World.setCells]
      rw [e]
      have bs := Beside.setCell g (W.alloc (.cells #[.int .i64 x] t)) h (.int .i64 x)
      have ch : ((W.alloc (.cells #[.int .i64 x] t)).cell? ⟨g, h, none⟩).isSome = true := by rw [cA]; exact h6 _ (by omega)
      refine k _ _ _ (.inr ⟨g, cap, rfl, h1, by simpa using zA, hc, fun o => by simp [go_sem, fA], fun j hj => ?_, fun j hj => ?_⟩) ((bA.mono hB).trans (bs.below h1 (by simp; omega)))
      · unfold puF
        by_cases q : j = h
        · subst q
          rw [if_pos rfl]
          exact World.cell?_setCell_same' _ _ _ ch
        · rw [if_neg q, World.cell?_setCell_other _ _ _ _ (by intro r; cases r; exact q rfl), cA]
          exact h5 j (by omega)
      · by_cases q : j = h
        · subst q
          rw [World.cell?_setCell_same' _ _ _ ch]; rfl
        · rw [World.cell?_setCell_other _ _ _ _ (by intro r; cases r; exact q rfl), cA]
          exact h6 j hj
    · intro hc v' w' ho' hg
      rw [vals_push] at ho'
      have st : StkI B w' v' (h + 1) (puF F h x) := stk_own (by simp; omega) ho'
      have bl : Below B W w' := (bA.mono hB).trans (grown_below hg (by simp; omega) (fun r hr => by cases hr))
      rcases st with ⟨_, q⟩ | ⟨g', cap', rfl, r⟩
      · omega
      · exact k _ _ w' (.inr ⟨g', cap', rfl, r⟩) bl
end Go.Proofs.Ytdidgbibbkhnhaa
