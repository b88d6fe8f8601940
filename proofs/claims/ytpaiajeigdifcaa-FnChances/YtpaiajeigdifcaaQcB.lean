/-
What is proved: lists of lists of int64s, how they are kept; a copy in new memory by the law's own helper.
-/
import Derived.Test.YtpaiajeigdifcaaI64
import Derived.Test.YtpaiajeigdifcaaTn
import Derived.Deep.RegionHeld3
import Derived.Deep.DeepCutAuto
import Derived.Test.YtpaiajeigdifcaaSuK
import Derived.Test.YtpaiajeigdifcaaQcA
namespace Go.Proofs.Ytpaiajeigdifcaa
set_option maxRecDepth 40000
open Go.RowKit
set_option linter.unusedVariables false
set_option linter.unusedSimpArgs false

/-- A list of n lists at a place. -/
def RowLL (w : World) (s : Option Addr) (n : Nat) (K : Nat → Nat) (V : Nat → Nat → Int) : Prop := ∀ i, i < n → ∃ b o a c, s = some ⟨b, o, none⟩ ∧ b < w.heap.size ∧ w.cell? ⟨b, o + i, none⟩ = some (.slice a (K i) c) ∧ RowI w a (K i) (V i)
theorem RowLL.below {w w' : World} {s : Option Addr} {n : Nat} {K : Nat → Nat} {V : Nat → Nat → Int} (h : RowLL w s n K V) (hb : Below w.heap.size w w') : RowLL w' s n K V := fun i hi => by
  obtain ⟨b, o, a, c, e, hl, hc, hr⟩ := h i hi
  exact ⟨b, o, a, c, e, Nat.lt_of_lt_of_le hl hb.size, (hb.cell (p := ⟨b, o + i, none⟩) hl).trans hc, hr.below hb⟩
/-- A list of n lists in blocks from base on, each its own, which may be written. -/
def OwnLL (S : Nat → Prop) (w : World) (s : Option Addr) (n : Nat) (K : Nat → Nat) (V : Nat → Nat → Int) : Prop := ∃ A : Nat → Nat, (∀ i, i < n → ∃ b a c, s = some ⟨b, 0, none⟩ ∧ S b ∧ b < w.heap.size ∧ (∀ o, w.frozen? ⟨b, o, none⟩ = false) ∧ w.cell? ⟨b, i, none⟩ = some (.slice a (K i) c) ∧ (0 < K i → a = some ⟨A i, 0, none⟩ ∧ A i ≠ b ∧ S (A i) ∧ A i < w.heap.size ∧ ∀ j, j < K i → w.cell? ⟨A i, j, none⟩ = some (.int .i64 (V i j)) ∧ w.frozen? ⟨A i, j, none⟩ = false)) ∧ ∀ i i', i < n → i' < n → 0 < K i → 0 < K i' → A i = A i' → i = i'
theorem OwnLL.row {S : Nat → Prop} {w : World} {s : Option Addr} {n : Nat} {K : Nat → Nat} {V : Nat → Nat → Int} (h : OwnLL S w s n K V) : RowLL w s n K V := fun i hi => by
  obtain ⟨A, h, -⟩ := h
  obtain ⟨b, a, c, e, _, hl, _, hc, hr⟩ := h i hi
  refine ⟨b, 0, a, c, e, by omega, by rw [Nat.zero_add]; exact hc, fun j hj => ?_⟩
  obtain ⟨ea, _, _, hA, hv⟩ := hr (by omega)
  exact ⟨A i, 0, ea, by omega, by rw [Nat.zero_add]; exact (hv j hj).1⟩
theorem OwnLL.keep {S : Nat → Prop} {w w' : World} {s : Option Addr} {n : Nat} {K : Nat → Nat} {V : Nat → Nat → Int} (h : OwnLL S w s n K V) (hs : w.heap.size ≤ w'.heap.size) (hb : ∀ k, S k → k < w.heap.size → w'.heap[k]? = w.heap[k]?) : OwnLL S w' s n K V := by
  obtain ⟨A, h, hi⟩ := h
  refine ⟨A, fun i q => ?_, hi⟩
  obtain ⟨b, a, c, e, h1, hl, hf, hc, hr⟩ := h i q
  have eb := hb b h1 hl
  refine ⟨b, a, c, e, h1, Nat.lt_of_lt_of_le hl hs, fun o => (World.frozen?_of_block (w := w) (a := ⟨b, o, none⟩) eb).trans (hf o), (World.cell?_of_block (w := w) (a := ⟨b, i, none⟩) eb).trans hc, fun k => ?_⟩
  obtain ⟨ea, n1, n2, hA, hv⟩ := hr k
  have eA := hb (A i) n2 hA
  exact ⟨ea, n1, n2, Nat.lt_of_lt_of_le hA hs, fun j hj => ⟨(World.cell?_of_block (w := w) (a := ⟨A i, j, none⟩) eA).trans (hv j hj).1, (World.frozen?_of_block (w := w) (a := ⟨A i, j, none⟩) eA).trans (hv j hj).2⟩⟩
theorem OwnLL.below {S : Nat → Prop} {w w' : World} {s : Option Addr} {n : Nat} {K : Nat → Nat} {V : Nat → Nat → Int} (h : OwnLL S w s n K V) (hb : Below w.heap.size w w') : OwnLL S w' s n K V := h.keep hb.size fun k _ hk => hb.block k hk
theorem make_ll (n : Nat) (hn : n ≤ 1048576) (w : World) : (Instr.makeSlice 27 (.int .i64 (n : Int)) (.int .i64 (n : Int))).run Try.prog w = .ok (.slice (some ⟨w.heap.size, 0, none⟩) n n) (w.alloc (.cells (madeCells #[.slice none 0 0] n) 30)) := by
  have hinfo : (Try.prog.info? 30).map (fun i => (i.zero, i.size, decide (i.bytes ≤ 80))) = some (some (.slice none 0 0), 1, true) := by kernel_rfl
  obtain ⟨i, hi, hzz⟩ := Option.map_eq_some_iff.1 hinfo
  simp only [Prod.mk.injEq, decide_eq_true_eq] at hzz
  obtain ⟨hz, hs, hb⟩ := hzz
  have hl : n * i.bytes ≤ 1048576 * 80 := Nat.mul_le_mul hn hb
  have hr := run_make (P := Try.prog) w 27 30 i _ Try.underlying27 hi hz .i64 .i64 n n (by omega) (Int.le_refl _) (by rw [← Int.natCast_mul]; have := Nat.mul_comm n i.bytes; omega) (by omega)
  simp only [Int.toNat_natCast, hs, Nat.mul_one] at hr
  exact hr
theorem store_ll : ∀ (W : World) (a : Addr) (s : Option Addr) (n c : Nat), (W.cell? a).isSome = true → W.frozen? a = false → (store a (.slice s n c)).run Try.prog W = .ok () (W.setCell a (.slice s n c)) := fun W a s n c h hf => by
  obtain ⟨u, hu⟩ := Option.isSome_iff_exists.1 h
  rw [run_store Try.prog W a _ _ rfl, hu]
  simp [hf]
/-- A copy on its way: k of n are there, the outer list in the block at the end of w. -/
def LLTo (w wr : World) (n k : Nat) (K : Nat → Nat) (V : Nat → Nat → Int) : Prop := Below w.heap.size w wr ∧ w.heap.size < wr.heap.size ∧ (∀ o, wr.frozen? ⟨w.heap.size, o, none⟩ = false) ∧ (∀ i, k ≤ i → i < n → wr.cell? ⟨w.heap.size, i, none⟩ = some (.slice none 0 0)) ∧ ∃ A : Nat → Nat, (∀ i, i < k → wr.cell? ⟨w.heap.size, i, none⟩ = some (.slice (some ⟨A i, 0, none⟩) (K i) (K i)) ∧ w.heap.size < A i ∧ A i < wr.heap.size ∧ ∀ j, j < K i → wr.cell? ⟨A i, j, none⟩ = some (.int .i64 (V i j)) ∧ wr.frozen? ⟨A i, j, none⟩ = false) ∧ ∀ i i', i < i' → i' < k → A i < A i'
theorem ll_start (w : World) (n : Nat) (K : Nat → Nat) (V : Nat → Nat → Int) (t : TypeId) : LLTo w (w.alloc (.cells (madeCells #[.slice none 0 0] n) t)) n 0 K V := by
  refine ⟨below0 _ _, by simp, fun o => by simp [go_sem], fun i _ hi => ?_, fun _ => 0, fun i hi => absurd hi (Nat.not_lt_zero i), fun i i' h hi => absurd hi (Nat.not_lt_zero i')⟩
  have hm0 : (madeCells #[.slice none 0 0] n)[i]? = some (.slice none 0 0) := by
    simp only [madeCells, Array.getElem?_map, Array.getElem?_range, hi, if_true, Option.map_some]
    show some ((#[Value.slice none 0 0] : Array Value)[i % 1]!) = _
    rw [Nat.mod_one]; rfl
  simpa [go_sem] using hm0
theorem ll_on {w wr w3 : World} {n k : Nat} {K : Nat → Nat} {V : Nat → Nat → Int} (hk : k < n) (h : LLTo w wr n k K V) (hz3 : wr.heap.size < w3.heap.size) (ho : OwnI wr.heap.size w3 (some ⟨wr.heap.size, 0, none⟩) (K k) (V k)) (h3 : Below wr.heap.size wr w3) : LLTo w (w3.setCell ⟨w.heap.size, k, none⟩ (.slice (some ⟨wr.heap.size, 0, none⟩) (K k) (K k))) n (k + 1) K V := by
  obtain ⟨hB, hz, hf, hn, A, hA, hm⟩ := h
  have bs := Beside.setCell w.heap.size w3 k (.slice (some ⟨wr.heap.size, 0, none⟩) (K k) (K k))
  have z3 := Nat.lt_of_lt_of_le hz h3.size
  have c3 : ∀ i, w3.cell? ⟨w.heap.size, i, none⟩ = wr.cell? ⟨w.heap.size, i, none⟩ := fun i => h3.cell (p := ⟨w.heap.size, i, none⟩) hz
  refine ⟨(hB.trans (h3.mono (by omega))).trans (bs.below (Nat.le_refl _) (by omega)), by simpa using z3, fun o => by simp [go_sem, (h3.frozen (p := ⟨w.heap.size, o, none⟩) hz).trans (hf o)], fun i h1 h2 => ?_, fun i => if i = k then wr.heap.size else A i, fun i hi => ?_, fun i i' h1 h2 => ?_⟩
  · rw [World.cell?_setCell_other _ _ _ _ (by intro q; cases q; omega), c3]
    exact hn i (by omega) h2
  · by_cases e : i = k
    · subst e
      simp only [if_pos (rfl : i = i)]
      refine ⟨World.cell?_setCell_same' _ _ _ (by rw [c3, hn i (Nat.le_refl _) hk]; rfl), hz, by simpa using hz3, fun j hj => ?_⟩
      obtain ⟨b, eb, _, hb, hc, hfz⟩ := ho j hj
      cases eb
      have ne : wr.heap.size ≠ w.heap.size := by omega
      exact ⟨(bs.cell (p := ⟨wr.heap.size, j, none⟩) hz3 ne).trans hc, (bs.frozen (p := ⟨wr.heap.size, j, none⟩) hz3 ne).trans hfz⟩
    · simp only [if_neg e]
      obtain ⟨q1, q2, q3, q4⟩ := hA i (by omega)
      refine ⟨by rw [World.cell?_setCell_other _ _ _ _ (by intro q; cases q; exact e rfl), c3]; exact q1, q2, by have := h3.size; simp; omega, fun j hj => ?_⟩
      have ne : A i ≠ w.heap.size := by omega
      have zA := Nat.lt_of_lt_of_le q3 h3.size
      exact ⟨(bs.cell (p := ⟨A i, j, none⟩) zA ne).trans ((h3.cell (p := ⟨A i, j, none⟩) q3).trans (q4 j hj).1), (bs.frozen (p := ⟨A i, j, none⟩) zA ne).trans ((h3.frozen (p := ⟨A i, j, none⟩) q3).trans (q4 j hj).2)⟩
  · have : i < k := by omega
    show (if i = k then wr.heap.size else A i) < (if i' = k then wr.heap.size else A i')
    rw [if_neg (by omega)]
    by_cases e : i' = k
    · rw [if_pos e]; exact (hA i this).2.2.1
    · rw [if_neg e]; exact hm i i' h1 (by omega)


open Go.RowKit
set_option linter.unusedVariables false
set_option linter.unusedSimpArgs false

theorem keepLL {W W' : World} {p q i j : Nat} {a b : Value} (h0 : W.cell? ⟨p, i, none⟩ = some a) (g0 : W.cell? ⟨q, j, none⟩ = some b) (hp : p < W.heap.size) (hq : q < W.heap.size) (hb : Below W.heap.size W W') : W'.cell? ⟨p, i, none⟩ = some a ∧ W'.cell? ⟨q, j, none⟩ = some b :=
  ⟨(hb.cell (p := ⟨p, i, none⟩) hp).trans h0, (hb.cell (p := ⟨q, j, none⟩) hq).trans g0⟩
set_option maxRecDepth 20000 in
set_option maxHeartbeats 2000000 in
theorem eqInt64SS_any (s t : Option Addr) (n c d : Nat) (K : Nat → Nat) (V : Nat → Nat → Int) (w : World) (hn : (n : Int) ≤ 1048576) (hK : ∀ i, i < n → (K i : Int) ≤ 1048576) (HR : Hid (RowLL w s n K V)) (HT : Hid (RowLL w t n K V)) :
    Calls Try.prog 32 #[.slice s n c, .slice t n d] w fun e w' => e = .returned (.bool true) ∧ Below w.heap.size w w' := by
  go_enter Try.func32, Try.ntmps32
  go_wp2_with fail
  go_loopw [5] (fun i wr => ∃ k : Nat, k ≤ n ∧ i = .int .i64 k ∧ Below w.heap.size w wr) (fun i _ => n - (intOf i).toNat)
  case atStart => exact ⟨0, Nat.zero_le _, rfl, Below.refl _ _⟩
  case round =>
    obtain ⟨k, hk, rfl, hB⟩ := hrel
    by_cases h1 : k < n
    · obtain ⟨g, o, a1, c1, rfl, hg, x0, r0⟩ := HR.out k h1
      obtain ⟨p, q, a2, c2, rfl, hp, x1, r1⟩ := HT.out k h1
      have u0 := (hB.cell (p := ⟨g, o + k, none⟩) hg).trans x0
      have v0 := (hB.cell (p := ⟨p, q + k, none⟩) hp).trans x1
      have k1 : (k : Int) < (n : Int) := by omega
      have zg : g < wr.heap.size := Nat.lt_of_lt_of_le hg hB.size
      have zp : p < wr.heap.size := Nat.lt_of_lt_of_le hp hB.size
      have kk := hK k h1
      have HA : Hid (RowI wr a1 (K k) (V k)) := r0.below hB
      have HC : Hid (RowI wr a2 (K k) (V k)) := r1.below hB
      obtain ⟨m, hm⟩ : ∃ m, K k = m := ⟨_, rfl⟩
      rw [hm] at u0 v0 kk HA HC
      have HB : Hid (Below w.heap.size w wr) := hB
      clear hB x0 x1 r0 r1 hg hp hm
      go_wp2_with fail
      go_region_held3 (fun w' => w'.cell? ⟨g, o + k, none⟩ = some (.slice a1 m c1) ∧ w'.cell? ⟨p, q + k, none⟩ = some (.slice a2 m c2)) (first | (refine keepLL u0 v0 zg zp ?_; exact (by repeat (first | with_reducible exact Below.refl _ _ | with_reducible exact B3 | with_reducible refine Below.setCell ?_ (by first | omega | (simp; done) | (simp; omega)) _ | with_reducible refine bDrewN ?_ _ | with_reducible refine Below.drew ?_ | with_reducible refine Below.alloc ?_ (by first | omega | (simp; done) | (simp; omega)) _)))) (first
        | (go_at_call 30; refine (eqInt64S_any _ _ m _ _ (V k) _ kk (HA.out.below (by repeat (first | with_reducible exact Below.refl _ _ | with_reducible refine Below.setCell ?_ (by first | omega | (simp; done) | (simp; omega)) _ | with_reducible refine bDrewN ?_ _ | with_reducible refine Below.drew ?_ | with_reducible refine Below.alloc ?_ (by first | omega | (simp; done) | (simp; omega)) _))) (HC.out.below (by repeat (first | with_reducible exact Below.refl _ _ | with_reducible refine Below.setCell ?_ (by first | omega | (simp; done) | (simp; omega)) _ | with_reducible refine bDrewN ?_ _ | with_reducible refine Below.drew ?_ | with_reducible refine Below.alloc ?_ (by first | omega | (simp; done) | (simp; omega)) _)))).mono ?_; rintro r w3 ⟨rfl, h3⟩; have B3 : Below wr.heap.size wr w3 := Below.trans (by repeat (first | with_reducible exact Below.refl _ _ | with_reducible refine Below.setCell ?_ (by first | omega | (simp; done) | (simp; omega)) _ | with_reducible refine bDrewN ?_ _ | with_reducible refine Below.drew ?_ | with_reducible refine Below.alloc ?_ (by first | omega | (simp; done) | (simp; omega)) _)) (h3.mono (by first | omega | (simp; done) | (simp; omega)))))
      all_goals
        have B4 : Below w.heap.size w w3 := HB.out.trans (B3.mono HB.out.size)
        go_wp2
        go_round
        case rel => exact ⟨k + 1, by omega, by go_num, (by repeat (first | with_reducible exact Below.refl _ _ | with_reducible exact B4 | with_reducible refine Below.setCell ?_ (by first | omega | (simp; done) | (simp; omega)) _ | with_reducible refine bDrewN ?_ _ | with_reducible refine Below.drew ?_ | with_reducible refine Below.alloc ?_ (by first | omega | (simp; done) | (simp; omega)) _))⟩
        case measure => simp [intOf]; omega
    · obtain rfl : k = n := by omega
      go_wp2
      go_ret
      exact ⟨rfl, (by repeat (first | with_reducible exact Below.refl _ _ | with_reducible exact hB | with_reducible refine Below.setCell ?_ (by first | omega | (simp; done) | (simp; omega)) _ | with_reducible refine bDrewN ?_ _ | with_reducible refine Below.drew ?_ | with_reducible refine Below.alloc ?_ (by first | omega | (simp; done) | (simp; omega)) _))⟩

open Go.RowKit
set_option linter.unusedVariables false
set_option linter.unusedSimpArgs false

def mkV (k : Int) (K : Nat → Nat) (i j : Nat) : Int := k + (suK K i : Int) + (j : Int)
def miV (m : Nat) (k : Int) (K : Nat → Nat) (V : Nat → Nat → Int) (i j : Nat) : Int := if i < m then mkV k K i j else V i j
/-- One of the lists marked: the others are as they were. -/
theorem ll_mark {S : Nat → Prop} {w w' : World} {s : Option Addr} {n m : Nat} {k : Int} {K : Nat → Nat} {V : Nat → Nat → Int} (h : OwnLL S w s n K (miV m k K V)) (hm : m < n)
    (h2 : ∀ x, (∃ b c, s = some ⟨b, 0, none⟩ ∧ w.cell? ⟨b, m, none⟩ = some (.slice (some ⟨x, 0, none⟩) (K m) c)) → 0 < K m → Beside x w w' ∧ ∀ j, j < K m → w'.cell? ⟨x, j, none⟩ = some (.int .i64 (mkV k K m j)) ∧ w'.frozen? ⟨x, j, none⟩ = false) (h0 : K m = 0 → w' = w) : OwnLL S w' s n K (miV (m + 1) k K V) ∧ Turn S w w' := by
  by_cases z : K m = 0
  · rw [h0 z]
    refine ⟨?_, Turn.refl _ _⟩
    obtain ⟨A, hA, hi⟩ := h
    refine ⟨A, fun i q => ?_, hi⟩
    obtain ⟨b, a, c, e, g1, hl, hf, hc, hr⟩ := hA i q
    refine ⟨b, a, c, e, g1, hl, hf, hc, fun p => ?_⟩
    obtain ⟨ea, n1, n2, n3, hv⟩ := hr p
    refine ⟨ea, n1, n2, n3, fun j hj => ⟨?_, (hv j hj).2⟩⟩
    have ne : i ≠ m := fun q => by rw [q] at p; omega
    rw [(hv j hj).1]
    unfold miV
    by_cases q1 : i < m
    · rw [if_pos q1, if_pos (by omega)]
    · rw [if_neg q1, if_neg (by omega)]
  · obtain ⟨A, hA, hi⟩ := h
    obtain ⟨bm, am, cm, em, g1m, hlm, hfm, hcm, hrm⟩ := hA m hm
    obtain ⟨eam, n1m, n2m, n3m, hvm⟩ := hrm (by omega)
    subst eam
    obtain ⟨bs, hmk⟩ := h2 (A m) ⟨bm, cm, em, hcm⟩ (by omega)
    refine ⟨⟨A, fun i q => ?_, hi⟩, Turn.of bs n2m⟩
    obtain ⟨b, a, c, e, g1, hl, hf, hc, hr⟩ := hA i q
    have eb : b = bm := by rw [em] at e; cases e; rfl
    subst eb
    have zb : b < w.heap.size := by omega
    refine ⟨b, a, c, e, g1, Nat.lt_of_lt_of_le hl bs.2.2.2.1, fun o => (bs.frozen (p := ⟨b, o, none⟩) zb (Ne.symm n1m)).trans (hf o), (bs.cell (p := ⟨b, i, none⟩) zb (Ne.symm n1m)).trans hc, fun p => ?_⟩
    obtain ⟨ea, n1, n2, n3, hv⟩ := hr p
    refine ⟨ea, n1, n2, Nat.lt_of_lt_of_le n3 bs.2.2.2.1, fun j hj => ?_⟩
    by_cases q1 : i = m
    · subst q1
      have := hmk j hj
      unfold miV
      rw [if_pos (by omega)]
      exact this
    · have nA : A i ≠ A m := fun q2 => q1 (hi i m q hm p (by omega) q2)
      have zA : A i < w.heap.size := by omega
      refine ⟨(bs.cell (p := ⟨A i, j, none⟩) zA nA).trans ?_, (bs.frozen (p := ⟨A i, j, none⟩) zA nA).trans (hv j hj).2⟩
      rw [(hv j hj).1]
      unfold miV
      by_cases q3 : i < m
      · rw [if_pos q3, if_pos (by omega)]
      · rw [if_neg q3, if_neg (by omega)]
set_option maxRecDepth 20000 in
set_option maxHeartbeats 4000000 in
theorem markInt64SS_own (S : Nat → Prop) (s : Option Addr) (n c : Nat) (k : Int) (K : Nat → Nat) (V : Nat → Nat → Int) (w : World) (hn : (n : Int) ≤ 1048576) (hsu : (suK K n : Int) ≤ 1048576) (k0 : 0 ≤ k) (k1 : k ≤ 10000000) (HR : Hid (OwnLL S w s n K V)) :
    Calls Try.prog 34 #[.slice s n c, .int .i64 k] w fun e w' => e = .returned (.int .i64 (k + (suK K n : Int))) ∧ OwnLL S w' s n K (mkV k K) ∧ Turn S w w' := by
  go_enter Try.func34, Try.ntmps34
  go_wp2_with fail
  go_loopw [1, 5] (fun q i wr => ∃ m : Nat, m ≤ n ∧ i = .int .i64 m ∧ q = .int .i64 (k + (suK K m : Int)) ∧ Hid (OwnLL S wr s n K (miV m k K V)) ∧ Hid (Turn S w wr)) (fun _ i _ => n - (intOf i).toNat)
  case atStart => exact ⟨0, Nat.zero_le _, rfl, by simp [suK], (by have e : miV 0 k K V = V := by { funext i j; unfold miV; rw [if_neg (Nat.not_lt_zero i)] }; rw [e]; exact HR.out), Turn.refl _ _⟩
  case round =>
    obtain ⟨m, hm, rfl, rfl, HO, HG⟩ := hrel
    by_cases h1 : m < n
    · have su := suK_in (K := K) h1
      have e1 : suK K (m + 1) = suK K m + K m := rfl
      have HL := HO.out
      obtain ⟨A, hA, -⟩ := HL
      obtain ⟨b, a, cc, rfl, g1, hl, hf, hc, hr⟩ := hA m h1
      have zb : b < wr.heap.size := by omega
      have k2 : (m : Int) < (n : Int) := by omega
      obtain ⟨x, hx⟩ : ∃ x, k + (suK K m : Int) = x := ⟨_, rfl⟩
      have HX : Hid (k + (suK K (m + 1) : Int) = x + (K m : Int)) := by show _ = _; rw [e1]; omega
      have HXX : Hid (k + (suK K m : Int) = x) := hx
      have x0 : 0 ≤ x := by omega
      have x1 : x ≤ 100000000 := by omega
      have km : (K m : Int) ≤ 1048576 := by omega
      rw [hx]
      clear hx e1 su hf g1 hA
      by_cases z : K m = 0
      · have HM : Hid (OwnLL S wr (some ⟨b, 0, none⟩) n K (miV (m + 1) k K V) ∧ Turn S wr wr) := ll_mark HO.out h1 (fun _ _ q => by omega) (fun _ => rfl)
        rw [z] at hc HX
        simp only [Int.natCast_zero, Int.add_zero] at HX
        clear hr
        go_wp2_with fail
        refine (markInt64S_nil a cc x _).mono ?_
        rintro e w1 ⟨rfl, rfl⟩
        go_wp2
        go_roundw
        case rel => exact ⟨m + 1, by omega, by go_num, by rw [HX.out], HM.out.1, HG.out⟩
        case measure => first | (simp [intOf]; done) | (simp [intOf]; omega)
      · obtain ⟨rfl, n1, n2, n3, hv⟩ := hr (by omega)
        have HV : Hid (∀ j, j < K m → wr.cell? ⟨A m, j, none⟩ = some (.int .i64 (miV m k K V m j)) ∧ wr.frozen? ⟨A m, j, none⟩ = false) := hv
        have zA : A m < wr.heap.size := by omega
        obtain ⟨y, hy⟩ : ∃ y, A m = y := ⟨_, rfl⟩
        rw [hy] at hc HV zA n1
        have HMK : Hid (∀ w', Beside y wr w' → (∀ j, j < K m → w'.cell? ⟨y, j, none⟩ = some (.int .i64 (x + (j : Int))) ∧ w'.frozen? ⟨y, j, none⟩ = false) → OwnLL S w' (some ⟨b, 0, none⟩) n K (miV (m + 1) k K V) ∧ Turn S wr w') := fun w' hb hq => ll_mark HO.out h1 (fun x' hx' _ => by
          obtain ⟨b', c', eb, hc'⟩ := hx'
          cases eb
          rw [hc] at hc'
          cases hc'
          refine ⟨hb, fun j hj => ?_⟩
          unfold mkV
          rw [HXX.out]
          exact hq j hj) (fun q => absurd q z)
        obtain ⟨l, hl2⟩ : ∃ l, K m = l := ⟨_, rfl⟩
        rw [hl2] at hc HV HMK HX km
        clear hl2 hv hy n2 n3
        go_wp2_with fail
        refine (markInt64S_at y l cc x (miV m k K V m) _ km x0 x1 zA HV).mono ?_
        rintro e w1 ⟨rfl, hB, hf1, hc1⟩
        have HM := HMK.out w1 hB (fun j hj => ⟨by rw [hc1 j hj, if_pos hj], hf1 j hj⟩)
        have HM1 : Hid (OwnLL S w1 (some ⟨b, 0, none⟩) n K (miV (m + 1) k K V)) := HM.1
        have HM2 : Hid (Turn S w w1) := HG.out.trans HM.2
        clear HM hB hf1 hc1
        go_wp2
        go_roundw
        case rel => exact ⟨m + 1, by omega, by go_num, by rw [HX.out], HM1.out, HM2.out⟩
        case measure => first | (simp [intOf]; done) | (simp [intOf]; omega)
    · obtain rfl : m = n := by omega
      have HE : Hid (OwnLL S wr s m K (mkV k K)) := by
        obtain ⟨A, hA, hi⟩ := HO.out
        refine ⟨A, fun i q => ?_, hi⟩
        obtain ⟨b, a, c, e, g1, hl, hf, hc, hr⟩ := hA i q
        refine ⟨b, a, c, e, g1, hl, hf, hc, fun p => ?_⟩
        obtain ⟨ea, n1, n2, n3, hv⟩ := hr p
        refine ⟨ea, n1, n2, n3, fun j hj => ⟨?_, (hv j hj).2⟩⟩
        rw [(hv j hj).1]
        unfold miV
        rw [if_pos q]
      go_wp2
      go_ret
      exact ⟨ret_int rfl, HE.out, HG.out⟩
set_option maxRecDepth 20000 in
set_option maxHeartbeats 2000000 in
theorem heldInt64SS_any (s : Option Addr) (n c : Nat) (k : Int) (K : Nat → Nat) (w : World) (hn : (n : Int) ≤ 1048576) (hsu : (suK K n : Int) ≤ 1048576) (k0 : 0 ≤ k) (k1 : k ≤ 10000000) (HR : Hid (RowLL w s n K (mkV k K))) :
    Calls Try.prog 37 #[.slice s n c, .int .i64 k] w fun e w' => e = .returned (.int .i64 (k + (suK K n : Int))) ∧ w' = w := by
  go_enter Try.func37, Try.ntmps37
  go_wp2_with fail
  go_loopw [1, 5] (fun q i wr => ∃ m : Nat, m ≤ n ∧ i = .int .i64 m ∧ q = .int .i64 (k + (suK K m : Int)) ∧ wr = w) (fun _ i _ => n - (intOf i).toNat)
  case atStart => exact ⟨0, Nat.zero_le _, rfl, by simp [suK], rfl⟩
  case round =>
    obtain ⟨m, hm, rfl, rfl, rfl⟩ := hrel
    by_cases h1 : m < n
    · have su := suK_in (K := K) h1
      have e1 : suK K (m + 1) = suK K m + K m := rfl
      obtain ⟨b, o, a, cc, rfl, hb, hc, hr⟩ := HR.out m h1
      have k2 : (m : Int) < (n : Int) := by omega
      obtain ⟨x, hx⟩ : ∃ x, k + (suK K m : Int) = x := ⟨_, rfl⟩
      have HX : Hid (k + (suK K (m + 1) : Int) = x + (K m : Int)) := by show _ = _; rw [e1]; omega
      have HV : Hid (RowI wr a (K m) (fun j : Nat => x + (j : Int))) := by
        have e2 : mkV k K m = fun j : Nat => x + (j : Int) := by funext j; unfold mkV; rw [hx]
        rw [← e2]; exact hr
      have x0 : 0 ≤ x := by omega
      have x1 : x ≤ 100000000 := by omega
      have km : (K m : Int) ≤ 1048576 := by omega
      have xn : decide (x + (K m : Int) < 0) = false := decide_eq_false (by omega)
      rw [hx]
      obtain ⟨l, hl2⟩ : ∃ l, K m = l := ⟨_, rfl⟩
      rw [hl2] at hc HV HX km xn
      clear hx e1 su hr hl2
      go_wp2_with fail
      refine (heldInt64S_any a l cc x _ km x0 x1 HV).mono ?_
      rintro e w1 ⟨rfl, rfl⟩
      go_wp2
      go_roundw
      case rel => exact ⟨m + 1, by omega, by go_num, by rw [HX.out], by first | rfl | trivial⟩
      case measure => first | (simp [intOf]; done) | (simp [intOf]; omega)
    · obtain rfl : m = n := by omega
      go_wp2
      go_ret
      exact ⟨ret_int rfl, rfl⟩

open Go.ChangeShapes Go.WideShapes Go.ChangeAt Go.RowKit
set_option linter.unusedVariables false
set_option linter.unusedSimpArgs false

def LLR (S : Nat → Prop) (w : World) (s : Option Addr) (n : Nat) (K : Nat → Nat) (V : Nat → Nat → Int) : Prop := OwnLL S w s n K V
theorem LLR.row {S : Nat → Prop} {w : World} {s : Option Addr} {n : Nat} {K : Nat → Nat} {V : Nat → Nat → Int} (h : LLR S w s n K V) : RowLL w s n K V := OwnLL.row h
theorem LLR.keep {S : Nat → Prop} {w : World} {s : Option Addr} {n : Nat} {K : Nat → Nat} {V : Nat → Nat → Int} {w' : World} (h : LLR S w s n K V) (hs : w.heap.size ≤ w'.heap.size) (hb : ∀ k, S k → k < w.heap.size → w'.heap[k]? = w.heap[k]?) : LLR S w' s n K V := OwnLL.keep h hs hb
theorem LLR.below {S : Nat → Prop} {w : World} {s : Option Addr} {n : Nat} {K : Nat → Nat} {V : Nat → Nat → Int} {w' : World} (h : LLR S w s n K V) (hb : Below w.heap.size w w') : LLR S w' s n K V := OwnLL.below h hb
theorem ll_each {n : Nat} {K : Nat → Nat} (h : (n : Int) + (suK K n : Int) ≤ 1048576) : ∀ i, i < n → (K i : Int) ≤ 1048576 := fun i hi => by have := suK_in (K := K) hi; omega
theorem eqInt64SS_r (s t : Option Addr) (n c d : Nat) (K : Nat → Nat) (V : Nat → Nat → Int) (w : World) (hn : (n : Int) + (suK K n : Int) ≤ 1048576) (HR : Hid (RowLL w s n K V)) (HT : Hid (RowLL w t n K V)) :
    Calls Try.prog 32 #[.slice s n c, .slice t n d] w fun e w' => e = .returned (.bool true) ∧ Below w.heap.size w w' := eqInt64SS_any s t n c d K V w (by omega) (ll_each hn) HR HT
theorem markInt64SS_r (S : Nat → Prop) (s : Option Addr) (n c : Nat) (k : Int) (K : Nat → Nat) (V : Nat → Nat → Int) (w : World) (hn : (n : Int) + (suK K n : Int) ≤ 1048576) (k0 : 0 ≤ k) (k1 : k ≤ 10000000) (HR : LLR S w s n K V) :
    Calls Try.prog 34 #[.slice s n c, .int .i64 k] w fun e w' => e = .returned (.int .i64 (k + (suK K n : Int))) ∧ LLR S w' s n K (mkV k K) ∧ Turn S w w' := markInt64SS_own S s n c k K V w (by omega) (by omega) k0 k1 HR
theorem heldInt64SS_r (s : Option Addr) (n c : Nat) (k : Int) (K : Nat → Nat) (w : World) (hn : (n : Int) + (suK K n : Int) ≤ 1048576) (k0 : 0 ≤ k) (k1 : k ≤ 10000000) (HR : Hid (RowLL w s n K (mkV k K))) :
    Calls Try.prog 37 #[.slice s n c, .int .i64 k] w fun e w' => e = .returned (.int .i64 (k + (suK K n : Int))) ∧ w' = w := heldInt64SS_any s n c k K w (by omega) (by omega) k0 k1 HR

open Go.ChangeShapes Go.WideShapes Go.ChangeAt Go.RowKit
set_option linter.unusedVariables false
set_option linter.unusedSimpArgs false

theorem OwnLL.bound {S : Nat → Prop} {w : World} {s : Option Addr} {n : Nat} {K : Nat → Nat} {V : Nat → Nat → Int} (h : OwnLL S w s n K V) : OwnLL (fun q => S q ∧ q < w.heap.size) w s n K V := by
  obtain ⟨A, h, hi⟩ := h
  refine ⟨A, fun i q => ?_, hi⟩
  obtain ⟨b, a, c, e, g1, hl, hf, hc, hr⟩ := h i q
  refine ⟨b, a, c, e, ⟨g1, hl⟩, hl, hf, hc, fun z => ?_⟩
  obtain ⟨ea, n1, n2, n3, hv⟩ := hr z
  exact ⟨ea, n1, ⟨n2, n3⟩, n3, hv⟩
/-- A list of n lists in the block p, of which k are there. -/
def LT (S : Nat → Prop) (p : Nat) (wr : World) (n k : Nat) (K : Nat → Nat) (V : Nat → Nat → Int) : Prop := S p ∧ p < wr.heap.size ∧ (∀ o, wr.frozen? ⟨p, o, none⟩ = false) ∧ (∀ i, k ≤ i → i < n → wr.cell? ⟨p, i, none⟩ = some (.slice none 0 0)) ∧ OwnLL S wr (some ⟨p, 0, none⟩) k K V
theorem LT.below {S : Nat → Prop} {p : Nat} {wr : World} {n k : Nat} {K : Nat → Nat} {V : Nat → Nat → Int} {w2 : World} (h : LT S p wr n k K V) (hb : Below wr.heap.size wr w2) : LT S p w2 n k K V :=
  ⟨h.1, Nat.lt_of_lt_of_le h.2.1 hb.size, fun o => (hb.frozen (p := ⟨p, o, none⟩) h.2.1).trans (h.2.2.1 o), fun i h1 h2 => (hb.cell (p := ⟨p, i, none⟩) h.2.1).trans (h.2.2.2.1 i h1 h2), h.2.2.2.2.below hb⟩
theorem LT.start {S : Nat → Prop} {w wr : World} {p n : Nat} {K : Nat → Nat} {V : Nat → Nat → Int} (hS : S p) (hp : p < wr.heap.size) (hf : ∀ o, wr.frozen? ⟨p, o, none⟩ = false) (hc : ∀ i, i < n → wr.cell? ⟨p, i, none⟩ = some (.slice none 0 0)) : LT S p wr n 0 K V :=
  ⟨hS, hp, hf, fun i _ h => hc i h, fun _ => 0, fun i hi => absurd hi (Nat.not_lt_zero i), fun i i' hi => absurd hi (Nat.not_lt_zero i)⟩
theorem LT.on {S : Nat → Prop} {p : Nat} {wr : World} {n k : Nat} {K : Nat → Nat} {V : Nat → Nat → Int} {w3 : World} {s : Option Addr} {c : Nat} (h : LT S p wr n k K V) (hk : k < n) (ho : OwnI wr.heap.size w3 s (K k) (V k)) (h3 : Below wr.heap.size wr w3) (hS : ∀ q, wr.heap.size ≤ q → S q) : LT S p (w3.setCell ⟨p, k, none⟩ (.slice s (K k) c)) n (k + 1) K V := by
  have h2 := h.below h3
  obtain ⟨h1, hz, hf, hc, A, hA, hi⟩ := h2
  have hz0 := h.2.1
  have hA0 : ∀ i, i < k → 0 < K i → A i < wr.heap.size ∨ True := fun _ _ _ => .inr trivial
  have bs := Beside.setCell p w3 k (.slice s (K k) c)
  obtain ⟨-, -, -, -, A', hA', hi'⟩ := h
  refine ⟨h1, by simpa using hz, fun o => by simp [go_sem, hf], fun i h1 h2 => ?_, ?_⟩
  · rw [World.cell?_setCell_other _ _ _ _ (by intro q; cases q; omega)]
    exact hc i (by omega) h2
  · by_cases z : 0 < K k
    · obtain ⟨b, rfl, hb1, hb2, -, -⟩ := ho 0 z
      refine ⟨fun i => if i = k then b else A' i, fun i q => ?_, fun i i' q1 q2 z1 z2 e => ?_⟩
      · by_cases e : i = k
        · subst e
          refine ⟨p, some ⟨b, 0, none⟩, c, rfl, h1, by simpa using hz, fun o => by simp [go_sem, hf], World.cell?_setCell_same' _ _ _ (by rw [hc i (Nat.le_refl _) hk]; rfl), fun _ => ⟨by simp, by simp; omega, by simp only [if_true]; exact hS _ hb1, by simpa using hb2, fun j hj => ?_⟩⟩
          simp only [if_true]
          obtain ⟨b', eb, -, hb', hcj, hfj⟩ := ho j hj
          cases eb
          have ne : b ≠ p := by omega
          exact ⟨(bs.cell (p := ⟨b, j, none⟩) hb2 ne).trans hcj, (bs.frozen (p := ⟨b, j, none⟩) hb2 ne).trans hfj⟩
        · obtain ⟨b2, a2, c2, e2, g1, hl, hf2, hc2, hr⟩ := hA' i (by omega)
          cases e2
          have hc3 := (h3.cell (p := ⟨p, i, none⟩) hz0).trans hc2
          refine ⟨p, a2, c2, rfl, h1, by simpa using hz, fun o => by simp [go_sem, hf], by rw [World.cell?_setCell_other _ _ _ _ (by intro q; cases q; exact e rfl)]; exact hc3, fun z' => ?_⟩
          obtain ⟨ea, n1, n2, n3, hv⟩ := hr z'
          simp only [if_neg e]
          have z3 := Nat.lt_of_lt_of_le n3 h3.size
          exact ⟨ea, n1, n2, by simpa using z3, fun j hj => ⟨(bs.cell (p := ⟨A' i, j, none⟩) z3 n1).trans ((h3.cell (p := ⟨A' i, j, none⟩) n3).trans (hv j hj).1), (bs.frozen (p := ⟨A' i, j, none⟩) z3 n1).trans ((h3.frozen (p := ⟨A' i, j, none⟩) n3).trans (hv j hj).2)⟩⟩
      · have lt : ∀ i, i < k → 0 < K i → A' i < wr.heap.size := fun i q z' => by
          obtain ⟨b2, a2, c2, e2, g1, hl, hf2, hc2, hr⟩ := hA' i q
          exact (hr z').2.2.2.1
        by_cases e1 : i = k
        · by_cases e2 : i' = k
          · omega
          · simp only [if_pos e1, if_neg e2] at e
            have := lt i' (by omega) z2
            omega
        · by_cases e2 : i' = k
          · simp only [if_neg e1, if_pos e2] at e
            have := lt i (by omega) z1
            omega
          · simp only [if_neg e1, if_neg e2] at e
            exact hi' i i' (by omega) (by omega) z1 z2 e
    · refine ⟨A', fun i q => ?_, fun i i' q1 q2 z1 z2 e => ?_⟩
      · by_cases e : i = k
        · subst e
          exact ⟨p, s, c, rfl, h1, by simpa using hz, fun o => by simp [go_sem, hf], World.cell?_setCell_same' _ _ _ (by rw [hc i (Nat.le_refl _) hk]; rfl), fun z' => absurd z' z⟩
        · obtain ⟨b2, a2, c2, e2, g1, hl, hf2, hc2, hr⟩ := hA' i (by omega)
          cases e2
          have hc3 := (h3.cell (p := ⟨p, i, none⟩) hz0).trans hc2
          refine ⟨p, a2, c2, rfl, h1, by simpa using hz, fun o => by simp [go_sem, hf], by rw [World.cell?_setCell_other _ _ _ _ (by intro q; cases q; exact e rfl)]; exact hc3, fun z' => ?_⟩
          obtain ⟨ea, n1, n2, n3, hv⟩ := hr z'
          have z3 := Nat.lt_of_lt_of_le n3 h3.size
          exact ⟨ea, n1, n2, by simpa using z3, fun j hj => ⟨(bs.cell (p := ⟨A' i, j, none⟩) z3 n1).trans ((h3.cell (p := ⟨A' i, j, none⟩) n3).trans (hv j hj).1), (bs.frozen (p := ⟨A' i, j, none⟩) z3 n1).trans ((h3.frozen (p := ⟨A' i, j, none⟩) n3).trans (hv j hj).2)⟩⟩
      · have ne1 : i ≠ k := fun q => z (q ▸ z1)
        have ne2 : i' ≠ k := fun q => z (q ▸ z2)
        exact hi' i i' (by omega) (by omega) z1 z2 e
theorem LT.done {S : Nat → Prop} {p : Nat} {wr : World} {n : Nat} {K : Nat → Nat} {V : Nat → Nat → Int} (h : LT S p wr n n K V) : OwnLL S wr (some ⟨p, 0, none⟩) n K V := h.2.2.2.2
theorem info_sl : (Try.prog.info? 30).map (fun i => (i.zero, i.size, i.bytes)) = some (some (.slice none 0 0), 1, 24) := by kernel_rfl
/-- One list appended to a list of lists. -/
theorem list_slh {ops : Array Oper} {rest : List Oper} {o : Oper} {a : Act} {Q : Exit → Act → World → Prop} {W : World} {t : TypeId} {x : Value} (hx1 : x.oneCell' = true) (base : Nat) (v : Value) (k : Nat) (xs : List Value) (s z : Operand) (hgd : o.guard = none)
    (ho : o.op = .call { callee := .builtin .append, args := #[s, z], argTypes := #[27, 27] }) (hs : a.eval s = v) (hx : a.eval z = .slice (some ⟨W.heap.size, 0, none⟩) 1 1) (hown : W.ownsRow base 30 1 v k xs) (hk : k ≤ 10000000) (hb : base ≤ W.heap.size)
    (h : ∀ g cap w', w'.ownsRow base 30 1 (.slice (some ⟨g, 0, none⟩) (k + 1) cap) (k + 1) (xs ++ [x]) → W.grownBy w' v.ownBlock → g < w'.heap.size → (v.ownBlock = some g ∨ W.heap.size < g) → wpList Try.prog ops Q rest (a.put o.dst (.slice (some ⟨g, 0, none⟩) (k + 1) cap)) w') :
    wpList Try.prog ops Q (o :: rest) a (W.alloc (.cells #[x] t)) := by
  obtain ⟨i0, hi, hz0, hz1, hz2⟩ := info_parts info_sl
  refine wpList_append_lies _ hgd s z 27 ho base 30 i0 (.slice none 0 0) 1 24 Try.underlying27 hi hz0 hz1 hz2 rfl (by decide) v k xs hs (hown.alloc _) ⟨W.heap.size, 0, none⟩ 1 1 [x] hx rfl (newsOne _ _ _) ?_ (by decide) (by unfold maxLen; omega) (by omega) (by simp; omega) _ rfl ?_
  · intro u hu
    simp at hu
    subst hu; exact hx1
  · intro g cap w' h1 h2 h4 h3
    refine h g cap w' h1 (grown_new h2) h3 ?_
    rcases h4 with h4 | h4
    · exact .inl h4
    · right; rw [h4]; simp
/-- A list of lists that is appended to, k of them there. -/
def MT (base : Nat) (w wr : World) (v : Value) (k : Nat) (xs : List Value) (K : Nat → Nat) (V : Nat → Nat → Int) : Prop := Below base w wr ∧ wr.ownsRow base 30 1 v k xs ∧ ∃ A : Nat → Nat, (∀ i, i < k → ∃ a c, xs[i]? = some (.slice a (K i) c) ∧ (0 < K i → a = some ⟨A i, 0, none⟩ ∧ base ≤ A i ∧ A i < wr.heap.size ∧ v.ownBlock ≠ some (A i) ∧ ∀ j, j < K i → wr.cell? ⟨A i, j, none⟩ = some (.int .i64 (V i j)) ∧ wr.frozen? ⟨A i, j, none⟩ = false)) ∧ ∀ i i', i < k → i' < k → 0 < K i → 0 < K i' → A i = A i' → i = i'
theorem own_lt {w : World} {base : Nat} {e : TypeId} {size : Nat} {v : Value} {n : Nat} {xs : List Value} (h : w.ownsRow base e size v n xs) : ∀ r, v.ownBlock = some r → r < w.heap.size := fun r hr => by
  rcases h.2 with ⟨q, _⟩ | ⟨g', cap, cur, e1, _, hg', _⟩
  · rw [q] at hr; simp [Value.ownBlock] at hr
  · rw [e1] at hr
    have : g' = r := by simpa [Value.ownBlock] using hr
    subst this
    rcases Nat.lt_or_ge g' w.heap.size with z | z
    · exact z
    · rw [Array.getElem?_eq_none z] at hg'; cases hg'
theorem MT.below {base : Nat} {w wr w2 : World} {v : Value} {k : Nat} {xs : List Value} {K : Nat → Nat} {V : Nat → Nat → Int} (h : MT base w wr v k xs K V) (hb : Below wr.heap.size wr w2) (hz : base ≤ wr.heap.size) : MT base w w2 v k xs K V := by
  obtain ⟨h0, h1, A, h2, h3⟩ := h
  refine ⟨h0.trans (hb.mono hz), own_same h1 (fun g hg => hb.block g (own_lt h1 g hg)), A, fun i hi => ?_, h3⟩
  obtain ⟨a, c, e, hr⟩ := h2 i hi
  refine ⟨a, c, e, fun z => ?_⟩
  obtain ⟨ea, n1, n2, n3, hv⟩ := hr z
  exact ⟨ea, n1, Nat.lt_of_lt_of_le n2 hb.size, n3, fun j hj => ⟨(hb.cell (p := ⟨A i, j, none⟩) n2).trans (hv j hj).1, (hb.frozen (p := ⟨A i, j, none⟩) n2).trans (hv j hj).2⟩⟩
theorem MT.lit (w : World) {base : Nat} {K : Nat → Nat} {V : Nat → Nat → Int} (hb : base ≤ w.heap.size) : MT base w (w.alloc (.cells #[] 30)) (.slice (some ⟨w.heap.size, 0, none⟩) 0 0) 0 [] K V :=
  ⟨(Below.refl _ _).alloc hb _, by simpa using World.ownsRow_lit (base := base) (size := 1) (e := 30) w #[] 0 hb (by simp [maxLen]) (by simp), fun _ => 0, fun i hi => absurd hi (Nat.not_lt_zero i), fun i i' hi => absurd hi (Nat.not_lt_zero i)⟩
/-- A row is appended: w1 is the world with the row in it. -/
theorem MT.on {base : Nat} {w wr w1 w2 : World} {v : Value} {k : Nat} {xs : List Value} {K : Nat → Nat} {V : Nat → Nat → Int} {s : Option Addr} {c g cap : Nat} (h : MT base w wr v k xs K V) (hb : Below wr.heap.size wr w1) (hz : base ≤ wr.heap.size) (ho : OwnI wr.heap.size w1 s (K k) (V k))
    (hown : w2.ownsRow base 30 1 (.slice (some ⟨g, 0, none⟩) (k + 1) cap) (k + 1) (xs ++ [.slice s (K k) c])) (hg : w1.grownBy w2 v.ownBlock) (hat : v.ownBlock = some g ∨ w1.heap.size < g) : MT base w w2 (.slice (some ⟨g, 0, none⟩) (k + 1) cap) (k + 1) (xs ++ [.slice s (K k) c]) K V := by
  obtain ⟨h0, h1, A, h2, h3⟩ := h
  have z1 := hb.size
  have z2 := hg.size
  have hlx : xs.length = k := by have := h1.1; simpa using this
  have gA : ∀ x, x < w1.heap.size → v.ownBlock ≠ some x → g ≠ x := fun x hx hn e => by
    rcases hat with q | q
    · exact hn (by rw [q, e])
    · omega
  have lt : ∀ i, i < k → 0 < K i → A i < wr.heap.size := fun i q z' => by
    obtain ⟨a, c, e, hr⟩ := h2 i q
    exact (hr z').2.2.1
  have vlt : ∀ x, wr.heap.size ≤ x → v.ownBlock ≠ some x := fun x hx e => by have := own_lt h1 x e; omega
  have old : ∀ i, i < k → ∃ a c', (xs ++ [Value.slice s (K k) c])[i]? = some (.slice a (K i) c') ∧ (0 < K i → a = some ⟨A i, 0, none⟩ ∧ base ≤ A i ∧ A i < w2.heap.size ∧ g ≠ A i ∧ ∀ j, j < K i → w2.cell? ⟨A i, j, none⟩ = some (.int .i64 (V i j)) ∧ w2.frozen? ⟨A i, j, none⟩ = false) := fun i hi => by
    obtain ⟨a, c', e, hr⟩ := h2 i hi
    refine ⟨a, c', by rw [List.getElem?_append_left (by omega)]; exact e, fun z => ?_⟩
    obtain ⟨ea, n1, n2, n3, hv⟩ := hr z
    have n2' : A i < w1.heap.size := by omega
    exact ⟨ea, n1, by omega, gA _ n2' n3, fun j hj => ⟨(hg.cell_far ⟨A i, j, none⟩ n2' (fun q => n3 q.symm)).trans ((hb.cell (p := ⟨A i, j, none⟩) n2).trans (hv j hj).1), (hg.frozen_far ⟨A i, j, none⟩ n2' (fun q => n3 q.symm)).trans ((hb.frozen (p := ⟨A i, j, none⟩) n2).trans (hv j hj).2)⟩⟩
  have hnew : (xs ++ [Value.slice s (K k) c])[k]? = some (.slice s (K k) c) := by rw [List.getElem?_append_right (by omega), hlx]; simp
  refine ⟨(h0.trans (hb.mono hz)).trans (grown_below hg (by omega) (own_block h1)), hown, ?_⟩
  by_cases z : 0 < K k
  · obtain ⟨b, rfl, hb1, hb2, -, -⟩ := ho 0 z
    refine ⟨fun i => if i = k then b else A i, fun i q => ?_, fun i i' q1 q2 y1 y2 e => ?_⟩
    · by_cases e : i = k
      · subst e
        refine ⟨_, _, hnew, fun _ => ⟨by simp, by simp; omega, by simp; omega, ?_, fun j hj => ?_⟩⟩
        · simp only [if_true]
          show some g ≠ some b
          intro q
          have q' : g = b := by simpa using q
          exact gA b hb2 (vlt b hb1) q'
        · simp only [if_true]
          obtain ⟨b', eb, -, hb', hcj, hfj⟩ := ho j hj
          cases eb
          exact ⟨(hg.cell_far ⟨b, j, none⟩ hb2 (fun q => vlt b hb1 q.symm)).trans hcj, (hg.frozen_far ⟨b, j, none⟩ hb2 (fun q => vlt b hb1 q.symm)).trans hfj⟩
      · obtain ⟨a, c', e1, hr⟩ := old i (by omega)
        refine ⟨a, c', e1, fun z' => ?_⟩
        obtain ⟨ea, n1, n2, n3, hv⟩ := hr z'
        simp only [if_neg e]
        exact ⟨ea, n1, n2, fun q => by have q' : some g = some (A i) := q; cases q'; exact n3 rfl, hv⟩
    · by_cases e1 : i = k
      · by_cases e2 : i' = k
        · omega
        · simp only [if_pos e1, if_neg e2] at e
          have := lt i' (by omega) y2
          omega
      · by_cases e2 : i' = k
        · simp only [if_neg e1, if_pos e2] at e
          have := lt i (by omega) y1
          omega
        · simp only [if_neg e1, if_neg e2] at e
          exact h3 i i' (by omega) (by omega) y1 y2 e
  · refine ⟨A, fun i q => ?_, fun i i' q1 q2 y1 y2 e => ?_⟩
    · by_cases e : i = k
      · subst e
        exact ⟨_, _, hnew, fun z' => absurd z' z⟩
      · obtain ⟨a, c', e1, hr⟩ := old i (by omega)
        refine ⟨a, c', e1, fun z' => ?_⟩
        obtain ⟨ea, n1, n2, n3, hv⟩ := hr z'
        exact ⟨ea, n1, n2, fun q => by have q' : some g = some (A i) := q; cases q'; exact n3 rfl, hv⟩
    · have ne1 : i ≠ k := fun q => z (q ▸ y1)
      have ne2 : i' ≠ k := fun q => z (q ▸ y2)
      exact h3 i i' (by omega) (by omega) y1 y2 e
theorem MT.done {base : Nat} {w wr : World} {v : Value} {k : Nat} {xs : List Value} {K : Nat → Nat} {V : Nat → Nat → Int} (h : MT base w wr v k xs K V) : ∃ s c, v = .slice s k c ∧ OwnLL (fun q => base ≤ q ∧ q < wr.heap.size) wr s k K V := by
  obtain ⟨h0, h1, A, h2, h3⟩ := h
  rcases Nat.eq_zero_or_pos k with z | z
  · subst z
    rcases h1.2 with ⟨q, _⟩ | ⟨g', cap, cur, e1, _⟩
    · exact ⟨none, 0, q, A, fun i hi => absurd hi (Nat.not_lt_zero i), fun i i' hi => absurd hi (Nat.not_lt_zero i)⟩
    · exact ⟨_, _, e1, A, fun i hi => absurd hi (Nat.not_lt_zero i), fun i i' hi => absurd hi (Nat.not_lt_zero i)⟩
  · obtain ⟨g, cap, e, hb, hl⟩ := h1.form z
    subst e
    refine ⟨_, _, rfl, A, fun i hi => ?_, h3⟩
    obtain ⟨a, c, e, hr⟩ := h2 i hi
    have hc := h1.cellAt i (by omega)
    refine ⟨g, a, c, rfl, ⟨hb, hl⟩, hl, fun o => h1.frozenAt o, by rw [hc, e], fun z' => ?_⟩
    obtain ⟨ea, n1, n2, n3, hv⟩ := hr z'
    exact ⟨ea, fun q => n3 (by rw [q]; rfl), ⟨n1, n2⟩, n2, hv⟩

end Go.Proofs.Ytpaiajeigdifcaa
