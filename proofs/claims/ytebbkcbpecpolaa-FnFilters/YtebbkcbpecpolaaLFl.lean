/-
What is proved: lists of float64s that grow side by side, each in a block of its own.
-/
import Derived.Test.YtebbkcbpecpolaaFilG
import Derived.Test.YtebbkcbpecpolaaOwnF
namespace Go.Proofs.Ytebbkcbpecpolaa
set_option maxRecDepth 40000
open Go.ChangeShapes Go.WideShapes Go.ChangeAt Go.RowKit
set_option linter.unusedVariables false
set_option linter.unusedSimpArgs false

def LF (base : Nat) (W : World) (g k cap : Nat) (V : Nat → Option Nat) : Prop := ∃ xs, W.ownsRow base 25 1 (.slice (some ⟨g, 0, none⟩) k cap) k xs ∧ FlRow xs k V
theorem LF.at {base : Nat} {W : World} {g k cap : Nat} {V : Nat → Option Nat} (h : LF base W g k cap V) : base ≤ g ∧ g < W.heap.size := by
  obtain ⟨xs, ho, _⟩ := h
  exact ho.lt g rfl
theorem LF.keep {base : Nat} {W W' : World} {g k cap : Nat} {V : Nat → Option Nat} (h : LF base W g k cap V) (e : W'.heap[g]? = W.heap[g]?) : LF base W' g k cap V := by
  obtain ⟨xs, ho, hf⟩ := h
  refine ⟨xs, ⟨ho.1, ?_⟩, hf⟩
  rcases ho.2 with q | ⟨g', cap', cur, e1, hb, hg, r⟩
  · exact .inl q
  · cases e1
    exact .inr ⟨g, cap, cur, rfl, hb, e.trans hg, r⟩
theorem LF.below {base : Nat} {W W' : World} {g k cap : Nat} {V : Nat → Option Nat} (h : LF base W g k cap V) (hb : Below W.heap.size W W') : LF base W' g k cap V := h.keep (hb.block g h.at.2)
theorem LF.row {base : Nat} {W : World} {g k cap : Nat} {V : Nat → Option Nat} (h : LF base W g k cap V) : RowF W (some ⟨g, 0, none⟩) k V := by
  obtain ⟨xs, ho, hf⟩ := h
  obtain ⟨s, c, e, hO⟩ := madeF_own (w := W) (base := base) ⟨ho, hf, Below.refl _ _⟩
  cases e
  exact hO.row
theorem LF.cap {base : Nat} {W : World} {g k cap : Nat} {V : Nat → Option Nat} (h : LF base W g k cap V) : k ≤ cap := by
  obtain ⟨xs, ho, _⟩ := h
  rcases ho.2 with ⟨e1, e2⟩ | ⟨g', cap', cur, e1, _, _, hc, _⟩
  · cases e1
  · cases e1; exact hc
theorem LF.lit (W : World) (base : Nat) (V : Nat → Option Nat) (hb : base ≤ W.heap.size) : LF base (W.alloc (.cells #[] 25)) W.heap.size 0 0 V :=
  ⟨[], by simpa using World.ownsRow_lit (base := base) (size := 1) (e := 25) W #[] 0 hb (by simp [maxLen]) (by simp), rfl, fun j hj => by omega⟩
theorem LF.two (W : World) (base x y : Nat) (V : Nat → Option Nat) (hb : base ≤ W.heap.size) (hx : Fl x (V 0)) (hy : Fl y (V 1)) : LF base (W.alloc (.cells #[.float .f64 x, .float .f64 y] 25)) W.heap.size 2 2 V :=
  ⟨[.float .f64 x, .float .f64 y], by simpa using World.ownsRow_lit (base := base) (size := 1) (e := 25) W #[.float .f64 x, .float .f64 y] 2 hb (by simp [maxLen]) (by simp), rfl, fun j hj => by
    rcases (by omega : j = 0 ∨ j = 1) with rfl | rfl
    · exact ⟨x, rfl, hx⟩
    · exact ⟨y, rfl, hy⟩⟩
theorem list_LF {ops : Array Oper} {rest : List Oper} {o : Oper} {a : Act} {Q : Exit → Act → World → Prop} {W : World} {t : TypeId} {x : Nat} (base g k cap : Nat) (V : Nat → Option Nat) (s z : Operand) (hgd : o.guard = none)
    (ho : o.op = .call { callee := .builtin .append, args := #[s, z], argTypes := #[24, 24] }) (hs : a.eval s = .slice (some ⟨g, 0, none⟩) k cap) (hx : a.eval z = .slice (some ⟨W.heap.size, 0, none⟩) 1 1) (hL : LF base W g k cap V) (hf : Fl x (V k)) (hk : k ≤ 10000000)
    (h : ∀ g' cap' w', LF base w' g' (k + 1) cap' V → Below base W w' → (g' = g ∨ W.heap.size ≤ g') → (∀ q, q < W.heap.size → q ≠ g → w'.heap[q]? = W.heap[q]?) → wpList Try.prog ops Q rest (a.put o.dst (.slice (some ⟨g', 0, none⟩) (k + 1) cap')) w') :
    wpList Try.prog ops Q (o :: rest) a (W.alloc (.cells #[.float .f64 x] t)) := by
  obtain ⟨xs, hown, hr⟩ := hL
  have hb : base ≤ W.heap.size := by have := hown.lt g rfl; omega
  obtain ⟨i0, hi, hz0, hz1, hz2⟩ := info_parts info_f64
  refine wpList_append_lies _ hgd s z 24 ho base 25 i0 (.float .f64 0) 1 8 Try.underlying24 hi hz0 hz1 hz2 rfl (by decide) (.slice (some ⟨g, 0, none⟩) k cap) k xs hs (hown.alloc _) ⟨W.heap.size, 0, none⟩ 1 1 [.float .f64 x] hx rfl (newsOne _ _ _) ?_ (by decide) (by unfold maxLen; omega) (by omega) (by simp; omega) _ rfl ?_
  · intro u hu
    simp at hu
    subst hu; rfl
  · intro g' cap' w' h1 h2 h4 h3
    refine h g' cap' w' ⟨_, h1, hr.snoc hf⟩ (grown_below (grown_new h2) hb (own_block hown)) ?_ (fun q hq hn => (grown_new h2).block q hq (fun e => hn (by cases e; rfl)))
    rcases h4 with h4 | h4
    · left; cases h4; rfl
    · right; rw [h4]; simp
theorem wp_LF {o : Oper} {a : Act} {K : Act → World → Prop} {Q : Exit → Act → World → Prop} {W : World} {t : TypeId} {x : Nat} (base g k cap : Nat) (V : Nat → Option Nat) (s z : Operand)
    (ho : o.op = .call { callee := .builtin .append, args := #[s, z], argTypes := #[24, 24] }) (hs : a.eval s = .slice (some ⟨g, 0, none⟩) k cap) (hx : a.eval z = .slice (some ⟨W.heap.size, 0, none⟩) 1 1) (hL : LF base W g k cap V) (hf : Fl x (V k)) (hk : k ≤ 10000000)
    (h : ∀ g' cap' w', LF base w' g' (k + 1) cap' V → Below base W w' → (g' = g ∨ W.heap.size ≤ g') → (∀ q, q < W.heap.size → q ≠ g → w'.heap[q]? = W.heap[q]?) → K (a.put o.dst (.slice (some ⟨g', 0, none⟩) (k + 1) cap')) w') :
    Oper.wp Try.prog o a (W.alloc (.cells #[.float .f64 x] t)) K Q := by
  obtain ⟨xs, hown, hr⟩ := hL
  have hb : base ≤ W.heap.size := by have := hown.lt g rfl; omega
  obtain ⟨i0, hi, hz0, hz1, hz2⟩ := info_parts info_f64
  refine wp_append_lies _ s z 24 ho base 25 i0 (.float .f64 0) 1 8 Try.underlying24 hi hz0 hz1 hz2 rfl (by decide) (.slice (some ⟨g, 0, none⟩) k cap) k xs hs (hown.alloc _) ⟨W.heap.size, 0, none⟩ 1 1 [.float .f64 x] hx rfl (newsOne _ _ _) ?_ (by decide) (by unfold maxLen; omega) (by omega) (by simp; omega) _ rfl ?_
  · intro u hu
    simp at hu
    subst hu; rfl
  · intro g' cap' w' h1 h2 h4 h3
    refine h g' cap' w' ⟨_, h1, hr.snoc hf⟩ (grown_below (grown_new h2) hb (own_block hown)) ?_ (fun q hq hn => (grown_new h2).block q hq (fun e => hn (by cases e; rfl)))
    rcases h4 with h4 | h4
    · left; cases h4; rfl
    · right; rw [h4]; simp
/-- Five lists, each in a block of its own. -/
def St (base : Nat) (W : World) (gn kn cn gd kd cd ga ka ca gb kb cb gc kc cc : Nat) (Vn Vd Va Vb Vc : Nat → Option Nat) : Prop := LF base W gn kn cn Vn ∧ LF base W gd kd cd Vd ∧ LF base W ga ka ca Va ∧ LF base W gb kb cb Vb ∧ LF base W gc kc cc Vc ∧ gn ≠ gd ∧ gn ≠ ga ∧ gn ≠ gb ∧ gn ≠ gc ∧ gd ≠ ga ∧ gd ≠ gb ∧ gd ≠ gc ∧ ga ≠ gb ∧ ga ≠ gc ∧ gb ≠ gc
theorem St.below {base : Nat} {W W' : World} {gn kn cn gd kd cd ga ka ca gb kb cb gc kc cc : Nat} {Vn Vd Va Vb Vc : Nat → Option Nat} (h : St base W gn kn cn gd kd cd ga ka ca gb kb cb gc kc cc Vn Vd Va Vb Vc) (hBB : Below W.heap.size W W') : St base W' gn kn cn gd kd cd ga ka ca gb kb cb gc kc cc Vn Vd Va Vb Vc := by
  obtain ⟨hn, hd, ha, hb, hc, qnd, qna, qnb, qnc, qda, qdb, qdc, qab, qac, qbc⟩ := h
  exact ⟨hn.below hBB, hd.below hBB, ha.below hBB, hb.below hBB, hc.below hBB, qnd, qna, qnb, qnc, qda, qdb, qdc, qab, qac, qbc⟩
theorem St.grow_n {base : Nat} {W W' : World} {gn kn cn gd kd cd ga ka ca gb kb cb gc kc cc : Nat} {Vn Vd Va Vb Vc : Nat → Option Nat} {g' c' : Nat} (h : St base W gn kn cn gd kd cd ga ka ca gb kb cb gc kc cc Vn Vd Va Vb Vc) (hL : LF base W' g' (kn + 1) c' Vn) (hnew : g' = gn ∨ W.heap.size ≤ g') (hkeep : ∀ q, q < W.heap.size → q ≠ gn → W'.heap[q]? = W.heap[q]?) : St base W' g' (kn + 1) c' gd kd cd ga ka ca gb kb cb gc kc cc Vn Vd Va Vb Vc := by
  obtain ⟨hn, hd, ha, hb, hc, qnd, qna, qnb, qnc, qda, qdb, qdc, qab, qac, qbc⟩ := h
  have zd := hd.at.2
  have za := ha.at.2
  have zb := hb.at.2
  have zc := hc.at.2
  exact ⟨hL, hd.keep (hkeep gd zd (by omega)), ha.keep (hkeep ga za (by omega)), hb.keep (hkeep gb zb (by omega)), hc.keep (hkeep gc zc (by omega)), by omega, by omega, by omega, by omega, qda, qdb, qdc, qab, qac, qbc⟩
theorem St.grow_a {base : Nat} {W W' : World} {gn kn cn gd kd cd ga ka ca gb kb cb gc kc cc : Nat} {Vn Vd Va Vb Vc : Nat → Option Nat} {g' c' : Nat} (h : St base W gn kn cn gd kd cd ga ka ca gb kb cb gc kc cc Vn Vd Va Vb Vc) (hL : LF base W' g' (ka + 1) c' Va) (hnew : g' = ga ∨ W.heap.size ≤ g') (hkeep : ∀ q, q < W.heap.size → q ≠ ga → W'.heap[q]? = W.heap[q]?) : St base W' gn kn cn gd kd cd g' (ka + 1) c' gb kb cb gc kc cc Vn Vd Va Vb Vc := by
  obtain ⟨hn, hd, ha, hb, hc, qnd, qna, qnb, qnc, qda, qdb, qdc, qab, qac, qbc⟩ := h
  have zn := hn.at.2
  have zd := hd.at.2
  have zb := hb.at.2
  have zc := hc.at.2
  exact ⟨hn.keep (hkeep gn zn (by omega)), hd.keep (hkeep gd zd (by omega)), hL, hb.keep (hkeep gb zb (by omega)), hc.keep (hkeep gc zc (by omega)), qnd, by omega, qnb, qnc, by omega, qdb, qdc, by omega, by omega, qbc⟩
theorem St.grow_b {base : Nat} {W W' : World} {gn kn cn gd kd cd ga ka ca gb kb cb gc kc cc : Nat} {Vn Vd Va Vb Vc : Nat → Option Nat} {g' c' : Nat} (h : St base W gn kn cn gd kd cd ga ka ca gb kb cb gc kc cc Vn Vd Va Vb Vc) (hL : LF base W' g' (kb + 1) c' Vb) (hnew : g' = gb ∨ W.heap.size ≤ g') (hkeep : ∀ q, q < W.heap.size → q ≠ gb → W'.heap[q]? = W.heap[q]?) : St base W' gn kn cn gd kd cd ga ka ca g' (kb + 1) c' gc kc cc Vn Vd Va Vb Vc := by
  obtain ⟨hn, hd, ha, hb, hc, qnd, qna, qnb, qnc, qda, qdb, qdc, qab, qac, qbc⟩ := h
  have zn := hn.at.2
  have zd := hd.at.2
  have za := ha.at.2
  have zc := hc.at.2
  exact ⟨hn.keep (hkeep gn zn (by omega)), hd.keep (hkeep gd zd (by omega)), ha.keep (hkeep ga za (by omega)), hL, hc.keep (hkeep gc zc (by omega)), qnd, qna, by omega, qnc, qda, by omega, qdc, by omega, qac, by omega⟩
theorem St.grow_c {base : Nat} {W W' : World} {gn kn cn gd kd cd ga ka ca gb kb cb gc kc cc : Nat} {Vn Vd Va Vb Vc : Nat → Option Nat} {g' c' : Nat} (h : St base W gn kn cn gd kd cd ga ka ca gb kb cb gc kc cc Vn Vd Va Vb Vc) (hL : LF base W' g' (kc + 1) c' Vc) (hnew : g' = gc ∨ W.heap.size ≤ g') (hkeep : ∀ q, q < W.heap.size → q ≠ gc → W'.heap[q]? = W.heap[q]?) : St base W' gn kn cn gd kd cd ga ka ca gb kb cb g' (kc + 1) c' Vn Vd Va Vb Vc := by
  obtain ⟨hn, hd, ha, hb, hc, qnd, qna, qnb, qnc, qda, qdb, qdc, qab, qac, qbc⟩ := h
  have zn := hn.at.2
  have zd := hd.at.2
  have za := ha.at.2
  have zb := hb.at.2
  exact ⟨hn.keep (hkeep gn zn (by omega)), hd.keep (hkeep gd zd (by omega)), ha.keep (hkeep ga za (by omega)), hb.keep (hkeep gb zb (by omega)), hL, qnd, qna, qnb, by omega, qda, qdb, by omega, qab, by omega, by omega⟩
end Go.Proofs.Ytebbkcbpecpolaa
