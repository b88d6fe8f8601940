/-
What is proved: a run of a sequence, in numbers; what a run keeps of memory while it goes on.
-/
import Derived.Test.YtlbhdlieeilbdaaSqX
import Derived.Test.YtlbhdlieeilbdaaTks
import Derived.Test.YtlbhdlieeilbdaaOwnL
import Derived.Test.YtlbhdlieeilbdaaI64R
import Derived.Test.YtlbhdlieeilbdaaSqtX
namespace Go.Proofs.Ytlbhdlieeilbdaa
set_option maxRecDepth 40000
open Go.RowKit
set_option linter.unusedVariables false
set_option linter.unusedSimpArgs false

def stR (V : Nat → Int) (T : Nat → Int × Bool) : Nat → Int × Int
  | 0 => (0, 0)
  | i + 1 => nxtV V (stR V T i).1 (stR V T i).2 (T i).1 (T i).2
def srB (n : Nat) (V : Nat → Int) (m : Nat) (T : Nat → Int × Bool) : Bool := planB n V && decide (m ≤ 1000 ∧ ∀ j, j < m → inB 0 65535 (T j).1 = true)
def srM (n : Nat) (V : Nat → Int) (m : Nat) (T : Nat → Int × Bool) : Nat := if srB n V m T = true then m else 0
def srE (n : Nat) (V : Nat → Int) (m : Nat) (T : Nat → Int × Bool) : Int × Int := if srB n V m T = true then stR V T m else (0, 0)
def srU (V : Nat → Int) (T : Nat → Int × Bool) (j : Nat) : Int := doV V (stR V T j).1
def SrPost (w : World) (n : Nat) (V : Nat → Int) (m : Nat) (T : Nat → Int × Bool) (e : Ending) (w' : World) : Prop := ∃ s' c', e = .returned (.tuple #[.slice s' (srM n V m T) c', .agg #[.int .i64 (srE n V m T).1, .int .i64 (srE n V m T).2], .bool (srB n V m T)]) ∧ OwnI w.heap.size w' s' (srM n V m T) (srU V T) ∧ Below w.heap.size w w'
theorem sr_no {n : Nat} {V : Nat → Int} {m : Nat} {T : Nat → Int × Bool} (h : srB n V m T = false) : srM n V m T = 0 ∧ srE n V m T = (0, 0) := by
  unfold srM srE
  rw [if_neg (by rw [h]; simp), if_neg (by rw [h]; simp)]
  exact ⟨rfl, rfl⟩
theorem sr_yes {n : Nat} {V : Nat → Int} {m : Nat} {T : Nat → Int × Bool} (h : srB n V m T = true) : srM n V m T = m ∧ srE n V m T = stR V T m := by
  unfold srM srE
  rw [if_pos h, if_pos h]
  exact ⟨rfl, rfl⟩
theorem post_no {w w' : World} {n : Nat} {V : Nat → Int} {m : Nat} {T : Nat → Int × Bool} {s : Option Addr} {c : Nat} (h : srB n V m T = false) (hb : Below w.heap.size w w') : SrPost w n V m T (.returned (.tuple #[.slice s 0 c, .agg #[.int .i64 0, .int .i64 0], .bool false])) w' := by
  obtain ⟨e1, e2⟩ := sr_no h
  unfold SrPost
  rw [e1, e2, h]
  exact ⟨s, c, rfl, fun j hj => by omega, hb⟩
theorem post_yes {w w' : World} {n : Nat} {V : Nat → Int} {m : Nat} {T : Nat → Int × Bool} {s : Option Addr} {c : Nat} {a t : Int} (h : srB n V m T = true) (he : stR V T m = (a, t)) (ho : OwnI w.heap.size w' s m (srU V T)) (hb : Below w.heap.size w w') : SrPost w n V m T (.returned (.tuple #[.slice s m c, .agg #[.int .i64 a, .int .i64 t], .bool true])) w' := by
  obtain ⟨e1, e2⟩ := sr_yes h
  unfold SrPost
  rw [e1, e2, h, he]
  exact ⟨s, c, rfl, ho, hb⟩
theorem stn_first {n : Nat} {V : Nat → Int} (h : planB n V = true) : stnB n V 0 0 = true := by
  obtain ⟨h1, h2, h3⟩ := plan_yes h
  obtain ⟨-, -, ⟨l0, l1⟩, -, -⟩ := pln_step (h3 0 (by omega))
  rw [stn_on (by decide) (by unfold inB; simp; omega)]
  unfold inB
  simp at l0 ⊢
  omega
theorem stn_go {n : Nat} {V : Nat → Int} (h : planB n V = true) {k : Nat} {x : Int} (hx : (-3 ≤ x ∧ x ≤ -1) ∨ ((k : Int) + 1 ≤ x ∧ x ≤ (n : Int) - 1)) : stnB n V x 0 = true := by
  obtain ⟨h1, h2, h3⟩ := plan_yes h
  rcases hx with hx | hx
  · rw [stn_mod (by unfold modB inB; simp; omega)]; rfl
  · obtain ⟨y, rfl⟩ : ∃ y : Nat, x = y := ⟨x.toNat, by omega⟩
    obtain ⟨-, -, ⟨l0, l1⟩, -, -⟩ := pln_step (h3 y (by omega))
    rw [stn_on (mod_nat y) (by unfold inB; simp; omega), Int.toNat_natCast]
    unfold inB
    simp
    omega
theorem stn_next {n : Nat} {V : Nat → Int} {a t S : Int} {H : Bool} (h : planB n V = true) (hs : stnB n V a t = true) : stnB n V (nxtV V a t S H).1 (nxtV V a t S H).2 = true := by
  cases hm : modB a
  case true => rw [nxt_mod hm]; exact hs
  have hi : inB 0 ((n : Int) - 1) a = true := by
    cases q : inB 0 ((n : Int) - 1) a
    · rw [stn_off hm q] at hs; cases hs
    · rfl
  have ht := inB_yes (stn_on hm hi ▸ hs)
  obtain ⟨a0, a1⟩ := inB_yes hi
  obtain ⟨k, rfl⟩ : ∃ k : Nat, a = (k : Int) := ⟨a.toNat, by omega⟩
  rw [Int.toNat_natCast] at ht
  obtain ⟨h1, h2, h3⟩ := plan_yes h
  obtain ⟨-, -, ⟨l0, l1⟩, g3, g4⟩ := pln_step (h3 k (by omega))
  cases hh : shB S (V (k * 5 + 1))
  case true => rw [nxt_show hh]; exact stn_go h g3
  cases H
  case true => rw [nxt_hold hh]; exact hs
  by_cases q : t + 1 = V (k * 5 + 2)
  · rw [nxt_late hh q]; exact stn_go h g4
  · rw [nxt_wait hh q, stn_on (mod_nat k) hi, Int.toNat_natCast]
    unfold inB
    simp
    omega
theorem stn_run {n : Nat} {V : Nat → Int} {T : Nat → Int × Bool} (h : planB n V = true) : ∀ k, stnB n V (stR V T k).1 (stR V T k).2 = true
  | 0 => stn_first h
  | k + 1 => stn_next h (stn_run h k)
theorem stn_place {n : Nat} {V : Nat → Int} {a t : Int} (h : planB n V = true) (hs : stnB n V a t = true) : modB a = true ∨ ∃ k : Nat, a = k ∧ k < n := by
  cases hm : modB a
  case true => exact .inl rfl
  have hi : inB 0 ((n : Int) - 1) a = true := by
    cases q : inB 0 ((n : Int) - 1) a
    · rw [stn_off hm q] at hs; cases hs
    · rfl
  obtain ⟨a0, a1⟩ := inB_yes hi
  exact .inr ⟨a.toNat, by omega, by omega⟩
/-- At a place lies a stand, which may be written. -/
def PrAt (p : Nat) (W : World) (a t : Int) : Prop := p < W.heap.size ∧ (∀ o, W.frozen? ⟨p, o, none⟩ = false) ∧ W.cell? ⟨p, 0, none⟩ = some (.int .i64 a) ∧ W.cell? ⟨p, 1, none⟩ = some (.int .i64 t)
theorem PrAt.low {p B : Nat} {W W' : World} {a t : Int} (h : PrAt p W a t) (hb : Below B W W') (hp : p < B) : PrAt p W' a t :=
  ⟨Nat.lt_of_lt_of_le h.1 hb.size, fun o => (hb.frozen (p := ⟨p, o, none⟩) hp).trans (h.2.1 o), (hb.cell (p := ⟨p, 0, none⟩) hp).trans h.2.2.1, (hb.cell (p := ⟨p, 1, none⟩) hp).trans h.2.2.2⟩
theorem PrAt.set {p : Nat} {W : World} {a t : Int} (h : PrAt p W a t) (a' t' : Int) : PrAt p ((W.setCell ⟨p, 0, none⟩ (.int .i64 a')).setCell ⟨p, 1, none⟩ (.int .i64 t')) a' t' := by
  obtain ⟨h1, h2, h3, h4⟩ := h
  refine ⟨by simpa using h1, fun o => by simp [go_sem, h2], ?_, ?_⟩ <;> simp [go_sem, h3, h4]
theorem PrAt.same {p : Nat} {W W' : World} {a t : Int} (h : PrAt p W a t) (hs : W.heap.size ≤ W'.heap.size) (hb : W'.heap[p]? = W.heap[p]?) : PrAt p W' a t :=
  ⟨Nat.lt_of_lt_of_le h.1 hs, fun o => (World.frozen?_of_block (w := W) hb).trans (h.2.1 o), (World.cell?_of_block (w := W) hb).trans h.2.2.1, (World.cell?_of_block (w := W) hb).trans h.2.2.2⟩
theorem pair_beside (W : World) (p : Nat) (a t : Int) : Beside p W ((W.setCell ⟨p, 0, none⟩ (.int .i64 a)).setCell ⟨p, 1, none⟩ (.int .i64 t)) := (Beside.setCell p W 0 _).trans (Beside.setCell p _ 1 _)
/-- Where a run stands: the stand at p, what was shown in the row v, in another block. -/
def SrAt (B p : Nat) (wb wr : World) (v : Value) (k : Nat) (U : Nat → Int) (a t : Int) : Prop := Below B wb wr ∧ B ≤ wr.heap.size ∧ B ≤ p ∧ PrAt p wr a t ∧ (∀ g, v.ownBlock = some g → g ≠ p) ∧ wr.ownsRow B 2 1 v k (vals U k)
theorem SrAt.below {B p : Nat} {wb wr w' : World} {v : Value} {k : Nat} {U : Nat → Int} {a t : Int} (h : SrAt B p wb wr v k U a t) (hb : Below wr.heap.size wr w') : SrAt B p wb w' v k U a t := by
  obtain ⟨h1, h2, h3, h4, h5, h6⟩ := h
  exact ⟨h1.trans (hb.mono h2), Nat.le_trans h2 hb.size, h3, h4.low hb h4.1, h5, own_same h6 fun g hg => hb.block g (h6.lt g hg).2⟩
theorem SrAt.set {B p : Nat} {wb wr : World} {v : Value} {k : Nat} {U : Nat → Int} {a t : Int} (h : SrAt B p wb wr v k U a t) (a' t' : Int) : SrAt B p wb ((wr.setCell ⟨p, 0, none⟩ (.int .i64 a')).setCell ⟨p, 1, none⟩ (.int .i64 t')) v k U a' t' := by
  obtain ⟨h1, h2, h3, h4, h5, h6⟩ := h
  have hs := pair_beside wr p a' t'
  exact ⟨h1.trans (hs.below h3 h2), by simpa using h2, h3, h4.set a' t', h5, own_same h6 fun g hg => hs.2.2.2.2 g (h6.lt g hg).2 (h5 g hg)⟩
theorem SrAt.on {B p g : Nat} {wb wr w' : World} {v : Value} {k cap : Nat} {U : Nat → Int} {a t x : Int} (h : SrAt B p wb wr v k U a t) (hg : wr.grownBy w' v.ownBlock) (ho : w'.ownsRow B 2 1 (.slice (some ⟨g, 0, none⟩) (k + 1) cap) (k + 1) (vals U k ++ [.int .i64 x])) (hn : v.ownBlock = some g ∨ wr.heap.size < g) (hx : x = U k) : SrAt B p wb w' (.slice (some ⟨g, 0, none⟩) (k + 1) cap) (k + 1) U a t := by
  obtain ⟨h1, h2, h3, h4, h5, h6⟩ := h
  have B' : Below B wr w' := grown_below hg h2 (own_block h6)
  refine ⟨h1.trans B', Nat.le_trans h2 hg.size, h3, h4.same hg.size (hg.block p h4.1 (fun e => (h5 p e.symm) rfl)), ?_, by rw [vals_succ, ← hx]; exact ho⟩
  intro r hr
  have : r = g := by simpa [Value.ownBlock] using hr.symm
  subst this
  rcases hn with hn | hn
  · exact h5 _ hn
  · have := h4.1; omega
theorem SrAt.own {B p : Nat} {wb wr : World} {v : Value} {k : Nat} {U : Nat → Int} {a t : Int} (h : SrAt B p wb wr v k U a t) : ∃ s cap, v = .slice s k cap ∧ OwnI B wr s k U := by
  have := own_OwnI (size := 1) (U := U) (by rw [Nat.mul_one]; exact h.2.2.2.2.2)
  rwa [Nat.mul_one] at this
theorem keepT4 {W W' : World} {p q i j : Nat} {v0 v1 v2 v3 : Value} (h0 : W.cell? ⟨p, 0, none⟩ = some v0) (h1 : W.cell? ⟨p, 1, none⟩ = some v1) (h2 : W.cell? ⟨q, i, none⟩ = some v2) (h3 : W.cell? ⟨q, j, none⟩ = some v3) (zp : p < W.heap.size) (zq : q < W.heap.size) (hb : Below W.heap.size W W') : W'.cell? ⟨p, 0, none⟩ = some v0 ∧ W'.cell? ⟨p, 1, none⟩ = some v1 ∧ W'.cell? ⟨q, i, none⟩ = some v2 ∧ W'.cell? ⟨q, j, none⟩ = some v3 :=
  ⟨(hb.cell (p := ⟨p, 0, none⟩) zp).trans h0, (hb.cell (p := ⟨p, 1, none⟩) zp).trans h1, (hb.cell (p := ⟨q, i, none⟩) zq).trans h2, (hb.cell (p := ⟨q, j, none⟩) zq).trans h3⟩
/-- The row that the program makes: k of its numbers are told. -/
def DoAt (g : Nat) (W : World) (m k : Nat) (U : Nat → Int) : Prop := g < W.heap.size ∧ (∀ o, W.frozen? ⟨g, o, none⟩ = false) ∧ ∀ j, j < m → W.cell? ⟨g, j, none⟩ = some (.int .i64 (if j < k then U j else 0))
theorem DoAt.same {g m k : Nat} {W W' : World} {U : Nat → Int} (h : DoAt g W m k U) (hs : W.heap.size ≤ W'.heap.size) (hb : W'.heap[g]? = W.heap[g]?) : DoAt g W' m k U :=
  ⟨Nat.lt_of_lt_of_le h.1 hs, fun o => (World.frozen?_of_block (w := W) hb).trans (h.2.1 o), fun j hj => (World.cell?_of_block (w := W) hb).trans (h.2.2 j hj)⟩
theorem DoAt.below {g m k : Nat} {W W' : World} {U : Nat → Int} (h : DoAt g W m k U) (hb : Below W.heap.size W W') : DoAt g W' m k U := h.same hb.size (hb.block g h.1)
theorem DoAt.on {g m k : Nat} {W : World} {U : Nat → Int} (h : DoAt g W m k U) (hk : k < m) : DoAt g (W.setCell ⟨g, k, none⟩ (.int .i64 (U k))) m (k + 1) U := by
  obtain ⟨h1, h2, h3⟩ := h
  refine ⟨by simpa using h1, fun o => by simp [go_sem, h2], fun j hj => ?_⟩
  by_cases e : j = k
  · subst e
    rw [if_pos (by omega)]
    have := h3 j hj
    simp [go_sem, this]
  · rw [World.cell?_setCell_other _ _ _ _ (by intro q; cases q; exact e rfl), h3 j hj]
    by_cases q : j < k
    · rw [if_pos q, if_pos (by omega)]
    · rw [if_neg q, if_neg (by omega)]
end Go.Proofs.Ytlbhdlieeilbdaa
