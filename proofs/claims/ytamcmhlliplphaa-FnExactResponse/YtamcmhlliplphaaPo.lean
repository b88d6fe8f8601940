/-
What is proved: when a polynomial is right, as both packages say it; its value at a pair, up to a NaN's bits.
-/
import Derived.Test.YtamcmhlliplphaaIsW
import Derived.Test.YtamcmhlliplphaaAllIn
import Derived.Test.YtamcmhlliplphaaPairQ
import Derived.Test.YtamcmhlliplphaaBeside
namespace Go.Proofs.Ytamcmhlliplphaa
set_option maxRecDepth 40000
open Go.RowKit
set_option linter.unusedVariables false
set_option linter.unusedSimpArgs false

def polyB (n : Nat) (V : Nat → Int) : Bool := inB 1 6 n && (allInB (-1000) 1000 V n && decide (V (n - 1) ≠ 0))
set_option maxHeartbeats 1000000 in
theorem polyOk_any (s : Option Addr) (n c : Nat) (V : Nat → Int) (w : World) (hn : (n : Int) ≤ 1048576) (HR : Hid (RowI w s n V)) :
    Calls Try.prog 17 #[.slice s n c] w fun e w' => e = .returned (.bool (polyB n V)) ∧ w' = w := by
  go_enter Try.func17, Try.ntmps17
  go_wp2_with fail
  refine (within_is _ _ _ _).mono ?_
  rintro e w1 ⟨rfl, e1⟩
  subst w1
  cases h0 : inB 1 6 (n : Int)
  · go_wp2
    go_ret
    exact ⟨ret_bool (by unfold polyB; rw [h0, Bool.false_and]), rfl⟩
  obtain ⟨n1, n6⟩ := inB_yes h0
  go_wp2_with fail
  refine (allWithin_any _ n _ V _ _ _ hn HR).mono ?_
  rintro e w1 ⟨rfl, e1⟩
  subst w1
  cases h1 : allInB (-1000) 1000 V n
  · go_wp2
    go_ret
    exact ⟨ret_bool (by unfold polyB; rw [h0, h1, Bool.false_and, Bool.and_false]), rfl⟩
  obtain ⟨m, rfl⟩ : ∃ m, n = m + 1 := ⟨n - 1, by omega⟩
  obtain ⟨g, o, rfl, hg, c0⟩ := HR.out m (by omega)
  have em : ((m + 1 : Nat) : Int) - 1 = (m : Int) := by omega
  go_wp2
  go_ret
  exact ⟨ret_bool (by unfold polyB; rw [h0, h1, Bool.true_and, Bool.true_and, Nat.add_sub_cancel]; by_cases q : V m = 0 <;> simp [q]), rfl⟩
theorem allIn_at {V : Nat → Int} {n k : Nat} (hk : k < n) (h : inB (-1000) 1000 (V k) = false) : allInB (-1000) 1000 V n = false := by
  unfold allInB
  rw [decide_eq_false_iff_not]
  intro q
  have := inB_no h
  have := q k hk
  omega
set_option maxRecDepth 20000 in
set_option maxHeartbeats 2000000 in
theorem l9Ok_any (s : Option Addr) (n c : Nat) (V : Nat → Int) (w : World) (hn : (n : Int) ≤ 1048576) (HR : Hid (RowI w s n V)) :
    Calls Try.prog 13 #[.slice s n c, .int .i64 6, .int .i64 1000] w fun e w' => e = .returned (.bool (polyB n V)) ∧ w' = w := by
  by_cases n0 : (n : Int) < 1
  · have e0 : polyB n V = false := by unfold polyB inB; rw [decide_eq_false (by omega), Bool.false_and]
    rw [e0]
    clear e0
    go_enter Try.func13, Try.ntmps13
    go_wp2
    go_ret
    exact ⟨rfl, rfl⟩
  by_cases n6 : (6 : Int) < n
  · have e0 : polyB n V = false := by unfold polyB inB; rw [decide_eq_false (by omega), Bool.false_and]
    rw [e0]
    clear e0
    go_enter Try.func13, Try.ntmps13
    go_wp2
    go_ret
    exact ⟨rfl, rfl⟩
  have h0 : inB 1 6 (n : Int) = true := decide_eq_true (by omega)
  obtain ⟨m, hm⟩ : ∃ m, n = m + 1 := ⟨n - 1, by omega⟩
  have em : (n : Int) - 1 = (m : Int) := by omega
  obtain ⟨g, o, rfl, hg, c0⟩ := HR.out m (by omega)
  by_cases z : V m = 0
  · have e0 : polyB n V = false := by unfold polyB; rw [show n - 1 = m by omega, z]; simp
    rw [e0]
    clear e0
    have hm' : m < n := by omega
    go_enter Try.func13, Try.ntmps13
    go_wp2
    go_ret
    exact ⟨rfl, rfl⟩
  have z1 : (V m == 0) = false := by simpa using z
  have hm' : m < n := by omega
  have HMM : Hid (n = m + 1) := hm
  clear hm
  go_enter Try.func13, Try.ntmps13
  go_wp2_with fail
  clear c0
  go_loop [7] (fun i => ∃ k : Nat, k ≤ n ∧ i = .int .i64 k ∧ Hid (∀ j, j < k → -1000 ≤ V j ∧ V j ≤ 1000)) (fun i => n - (intOf i).toNat)
  case atStart => exact ⟨0, Nat.zero_le _, rfl, fun j hj => by omega⟩
  case round =>
    obtain ⟨k, hk, rfl, hP⟩ := hrel
    by_cases hlt : k < n
    · obtain ⟨g', o', e', hg', c1⟩ := HR.out k hlt
      cases e'
      have k1 : (k : Int) < (n : Int) := by omega
      go_wp2_with fail
      refine (l1In_is _ _ _ _).mono ?_
      rintro e w2 ⟨rfl, e2⟩
      subst w2
      cases h1 : inB (-1000) 1000 (V k)
      · have HF : Hid (polyB n V = false) := by unfold polyB; rw [allIn_at hlt h1, Bool.false_and, Bool.and_false]; exact rfl
        go_wp2
        go_ret
        exact ⟨ret_bool HF.out.symm, rfl⟩
      · have HQ : Hid (∀ j, j < k + 1 → -1000 ≤ V j ∧ V j ≤ 1000) := ball_succ hP.out (inB_yes h1)
        go_wp2
        go_round
        case rel => exact ⟨k + 1, by omega, by go_num, HQ⟩
        case measure => simp [intOf]; omega
    · obtain rfl : k = n := by omega
      have HF : Hid (polyB k V = true) := by
        unfold polyB allInB
        rw [h0, decide_eq_true hP.out, show k - 1 = m by have := HMM.out; omega, decide_eq_true z]
        exact rfl
      go_wp2
      go_ret
      exact ⟨ret_bool HF.out.symm, rfl⟩
def itf (k : Int) : Nat := FloatKind.f64.nearest k
theorem itf_fl (k : Int) : Fl (itf k) (some (itf k)) := by
  have : rg (itf k) ≤ INF ∧ itf k < 18446744073709551616 := write_fin (.number (decide (k < 0)) k.natAbs 0) rfl
  exact ⟨this.2, .inl ⟨this.1, rfl⟩⟩
theorem conv64 (k : Int) (w : World) : (convert 2 23 (.int .i64 k)).run Try.prog w = .ok (.float .f64 (itf k)) w := by kernel_rfl
/-- Horner's scheme: behind k steps. -/
def horV (V : Nat → Int) (a b : Option Nat) (n : Nat) : Nat → Option Nat × Option Nat
  | 0 => (some 0, some 0)
  | k + 1 => (opO .add (mulRe (horV V a b n k).1 (horV V a b n k).2 a b) (some (itf (V (n - 1 - k)))), opO .add (mulIm (horV V a b n k).1 (horV V a b n k).2 a b) (some 0))
theorem hor_step {V : Nat → Int} {a b : Option Nat} {n j : Nat} (hj : j < n) : horV V a b n (n - j) = (opO .add (mulRe (horV V a b n (n - (j + 1))).1 (horV V a b n (n - (j + 1))).2 a b) (some (itf (V j))), opO .add (mulIm (horV V a b n (n - (j + 1))).1 (horV V a b n (n - (j + 1))).2 a b) (some 0)) := by
  obtain ⟨k, hk⟩ : ∃ k, n - (j + 1) = k := ⟨_, rfl⟩
  have e : n - j = k + 1 := by omega
  rw [hk, e]
  show (opO .add (mulRe (horV V a b n k).1 (horV V a b n k).2 a b) (some (itf (V (n - 1 - k)))), _) = _
  rw [show n - 1 - k = j by omega]
def polRe (n : Nat) (V : Nat → Int) (a b : Option Nat) : Option Nat := if polyB n V = true then (horV V a b n n).1 else none
def polIm (n : Nat) (V : Nat → Int) (a b : Option Nat) : Option Nat := if polyB n V = true then (horV V a b n n).2 else none
/-- A pair in its block. -/
def PrAt (w : World) (p r i : Nat) : Prop := p < w.heap.size ∧ (∀ o, w.frozen? ⟨p, o, none⟩ = false) ∧ w.cell? ⟨p, 0, none⟩ = some (.float .f64 r) ∧ w.cell? ⟨p, 1, none⟩ = some (.float .f64 i)
theorem PrAt.low {w w' : World} {p B r i : Nat} (h : PrAt w p r i) (hb : Below B w w') (hp : p < B) : PrAt w' p r i := by
  obtain ⟨h1, h2, c0, c1⟩ := h
  exact ⟨Nat.lt_of_lt_of_le h1 hb.size, fun o => (hb.frozen (p := ⟨p, o, none⟩) hp).trans (h2 o), (hb.cell (p := ⟨p, 0, none⟩) hp).trans c0, (hb.cell (p := ⟨p, 1, none⟩) hp).trans c1⟩
theorem PrAt.below {w w' : World} {p r i : Nat} (h : PrAt w p r i) (hb : Below w.heap.size w w') : PrAt w' p r i := h.low hb h.1
theorem PrAt.beside {w w' : World} {p q r i : Nat} (h : PrAt w p r i) (hb : Beside q w w') (hp : p ≠ q) : PrAt w' p r i := by
  obtain ⟨h1, f, c0, c1⟩ := h
  exact ⟨Nat.lt_of_lt_of_le h1 hb.2.2.2.1, fun o => (hb.frozen (p := ⟨p, o, none⟩) h1 hp).trans (f o), (hb.cell (p := ⟨p, 0, none⟩) h1 hp).trans c0, (hb.cell (p := ⟨p, 1, none⟩) h1 hp).trans c1⟩
def set2 (w : World) (p r i : Nat) : World := (w.setCell ⟨p, 0, none⟩ (.float .f64 r)).setCell ⟨p, 1, none⟩ (.float .f64 i)
theorem set2_beside (w : World) (p r i : Nat) : Beside p w (set2 w p r i) := (Beside.setCell _ _ 0 _).trans (Beside.setCell _ _ 1 _)
theorem PrAt.set {w : World} {p r i : Nat} (h : PrAt w p r i) (u v : Nat) : PrAt (set2 w p u v) p u v := by
  obtain ⟨h1, h2, c0, c1⟩ := h
  unfold set2
  refine ⟨by simpa using h1, fun o => ?_, ?_, ?_⟩
  · have := h2 o; simpa [go_sem] using this
  all_goals simp [go_sem, c0, c1]
theorem prAt_new (w : World) (r i : Nat) (t : TypeId) : PrAt (w.alloc (.cells #[.float .f64 r, .float .f64 i] t)) w.heap.size r i := by
  refine ⟨by simp, fun o => by simp [go_sem], by simp [go_sem], by simp [go_sem]⟩
theorem keepS {W W' : World} {q g j : Nat} {c d e : Value} (h2 : W.cell? ⟨q, 0, none⟩ = some c) (h3 : W.cell? ⟨q, 1, none⟩ = some d) (h4 : W.cell? ⟨g, j, none⟩ = some e) (hq : q < W.heap.size) (hg : g < W.heap.size) (hb : Below W.heap.size W W') : W'.cell? ⟨q, 0, none⟩ = some c ∧ W'.cell? ⟨q, 1, none⟩ = some d ∧ W'.cell? ⟨g, j, none⟩ = some e :=
  ⟨(hb.cell (p := ⟨q, 0, none⟩) hq).trans h2, (hb.cell (p := ⟨q, 1, none⟩) hq).trans h3, (hb.cell (p := ⟨g, j, none⟩) hg).trans h4⟩
theorem keepT {W W1 W' : World} {p q g j : Nat} {c d e : Value} (h2 : W.cell? ⟨q, 0, none⟩ = some c) (h3 : W.cell? ⟨q, 1, none⟩ = some d) (h4 : W.cell? ⟨g, j, none⟩ = some e) (hq : q < W.heap.size) (hg : g < W.heap.size) (hb : Below W.heap.size W W1) (hs : Beside p W1 W') (nq : q ≠ p) (ng : g ≠ p) : W'.cell? ⟨q, 0, none⟩ = some c ∧ W'.cell? ⟨q, 1, none⟩ = some d ∧ W'.cell? ⟨g, j, none⟩ = some e := by
  obtain ⟨a1, a2, a3⟩ := keepS h2 h3 h4 hq hg hb
  have z1 := Nat.lt_of_lt_of_le hq hb.size
  have z2 := Nat.lt_of_lt_of_le hg hb.size
  exact ⟨(hs.cell (p := ⟨q, 0, none⟩) z1 nq).trans a1, (hs.cell (p := ⟨q, 1, none⟩) z1 nq).trans a2, (hs.cell (p := ⟨g, j, none⟩) z2 ng).trans a3⟩
theorem keepP {W W' : World} {p q g j : Nat} {a b c d e : Value} (h0 : W.cell? ⟨p, 0, none⟩ = some a) (h1 : W.cell? ⟨p, 1, none⟩ = some b) (h2 : W.cell? ⟨q, 0, none⟩ = some c) (h3 : W.cell? ⟨q, 1, none⟩ = some d) (h4 : W.cell? ⟨g, j, none⟩ = some e) (hp : p < W.heap.size) (hq : q < W.heap.size) (hg : g < W.heap.size) (hb : Below W.heap.size W W') : W'.cell? ⟨p, 0, none⟩ = some a ∧ W'.cell? ⟨p, 1, none⟩ = some b ∧ W'.cell? ⟨q, 0, none⟩ = some c ∧ W'.cell? ⟨q, 1, none⟩ = some d ∧ W'.cell? ⟨g, j, none⟩ = some e :=
  ⟨(hb.cell (p := ⟨p, 0, none⟩) hp).trans h0, (hb.cell (p := ⟨p, 1, none⟩) hp).trans h1, (hb.cell (p := ⟨q, 0, none⟩) hq).trans h2, (hb.cell (p := ⟨q, 1, none⟩) hq).trans h3, (hb.cell (p := ⟨g, j, none⟩) hg).trans h4⟩
end Go.Proofs.Ytamcmhlliplphaa
