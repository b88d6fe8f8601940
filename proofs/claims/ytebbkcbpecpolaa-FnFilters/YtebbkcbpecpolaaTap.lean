/-
What is proved: a filter in numbers; taps of a list, as the program takes them.
-/
import Derived.Test.YtebbkcbpecpolaaF64T
import Derived.Deep.RegionHeldLaw
import Derived.Deep.DeepCutAuto
namespace Go.Proofs.Ytebbkcbpecpolaa
set_option maxRecDepth 40000
open Go.RowKit
set_option linter.unusedVariables false
set_option linter.unusedSimpArgs false

set_option maxHeartbeats 400000 in
theorem within_yes (n lo hi : Int) (w : World) (h1 : lo ≤ n) (h2 : n ≤ hi) :
    Calls Try.prog 15 #[.int .i64 n, .int .i64 lo, .int .i64 hi] w fun e w' => e = .returned (.bool true) ∧ w' = w := by
  go_enter Try.func15, Try.ntmps15
  go_wp2
  go_ret
  exact ⟨by simp, rfl⟩
set_option maxHeartbeats 400000 in
theorem within_no (n lo hi : Int) (w : World) (h : n < lo ∨ hi < n) :
    Calls Try.prog 15 #[.int .i64 n, .int .i64 lo, .int .i64 hi] w fun e w' => e = .returned (.bool false) ∧ w' = w := by
  by_cases c : n < lo
  · have b : decide (lo ≤ n) = false := by simp; omega
    go_enter Try.func15, Try.ntmps15
    go_wp2
    go_ret
    exact ⟨rfl, rfl⟩
  · have b : decide (n ≤ hi) = false := by simp; omega
    go_enter Try.func15, Try.ntmps15
    go_wp2
    go_ret
    exact ⟨rfl, rfl⟩
/-- The first k taps with the last of m numbers, and so on back. -/
def tapU (T X : Nat → Option Nat) (m : Nat) : Nat → Option Nat
  | 0 => some 0
  | k + 1 => opO .add (tapU T X m k) (opO .mul (T k) (X (m - 1 - k)))
theorem tapU_congr {T X Y : Nat → Option Nat} {m : Nat} (h : ∀ j, j < m → X j = Y j) : ∀ k, k ≤ m → tapU T X m k = tapU T Y m k
  | 0, _ => rfl
  | k + 1, hk => by unfold tapU; rw [tapU_congr h k (by omega), h (m - 1 - k) (by omega)]
def filV (N D L : Nat → Option Nat) (p d k : Nat) (X : Nat → Option Nat) : Option Nat := opO .quo (opO .sub (tapU N L (k + 1) (min p (k + 1))) (tapU (fun j => D (j + 1)) X k (min (d - 1) k))) (D 0)
def outs (N D L : Nat → Option Nat) (p d : Nat) : Nat → List (Option Nat)
  | 0 => []
  | k + 1 => outs N D L p d k ++ [filV N D L p d k (fun j => (outs N D L p d k).getD j none)]
def outF (N D L : Nat → Option Nat) (p d k : Nat) : Option Nat := filV N D L p d k (fun j => (outs N D L p d k).getD j none)
theorem outs_len (N D L : Nat → Option Nat) (p d : Nat) : ∀ k, (outs N D L p d k).length = k
  | 0 => rfl
  | k + 1 => by simp [outs, outs_len N D L p d k]
theorem outs_at (N D L : Nat → Option Nat) (p d : Nat) : ∀ k j, j < k → (outs N D L p d k).getD j none = outF N D L p d j
  | 0, j, h => by omega
  | k + 1, j, h => by
    by_cases e : j = k
    · subst e
      have := outs_len N D L p d j
      simp [outs, this, outF]
    · have l := outs_len N D L p d k
      have i := outs_at N D L p d k j (by omega)
      simp only [outs]
      rw [List.getD_eq_getElem?_getD, List.getElem?_append_left (by omega), ← List.getD_eq_getElem?_getD]
      exact i
theorem outF_eq (N D L : Nat → Option Nat) (p d k : Nat) : outF N D L p d k = filV N D L p d k (outF N D L p d) := by
  unfold outF filV
  rw [tapU_congr (fun j hj => outs_at N D L p d k j hj) _ (Nat.min_le_right _ _)]
  rfl
theorem wrapF {x : Int} (h0 : -9223372036854775808 ≤ x) (h1 : x ≤ 9223372036854775807) : IntKind.i64.wrap x = x := by
  rw [IntKind.wrap_i64]; omega
set_option maxRecDepth 20000 in
set_option maxHeartbeats 4000000 in
theorem tapped_any (s : Option Addr) (n c : Nat) (T : Nat → Option Nat) (t : Option Addr) (m d : Nat) (X : Nat → Option Nat) (w : World) (hn : n ≤ 8) (hm : m ≤ 1000) (HT : Hid (RowF w s n T)) (HX : Hid (RowF w t m X)) :
    Calls Try.prog 13 #[.slice s n c, .slice t m d] w fun e w' => ∃ r, e = .returned (.float .f64 r) ∧ Fl r (tapU T X m (min n m)) ∧ Below w.heap.size w w' := by
  rcases Nat.lt_or_ge m n with q | q
  · have q1 : (m : Int) < (n : Int) := by omega
    rw [show min n m = m by omega]
    go_enter Try.func13, Try.ntmps13
    go_wp2_with fail
    go_loopw [5, 12] (fun q i wr => ∃ (k x : Nat), k ≤ m ∧ i = .int .i64 k ∧ q = .float .f64 x ∧ Fl x (tapU T X m k) ∧ Below w.heap.size w wr) (fun _ i _ => m - (intOf i).toNat)
    case atStart => exact ⟨0, 0, Nat.zero_le _, rfl, rfl, fl_zero, Below.refl _ _⟩
    case round =>
      obtain ⟨k, x, hk, rfl, rfl, hx, hB⟩ := hrel
      by_cases h1 : k < m
      · obtain ⟨j, hj⟩ : ∃ j, m = j + k + 1 := ⟨m - 1 - k, by omega⟩
        have ej : m - 1 - k = j := by omega
        obtain ⟨g, o, y, rfl, hg, c0, hy⟩ := HT.out k (by omega)
        obtain ⟨g', o', z, rfl, hg', c1, hz⟩ := HX.out j (by omega)
        have d0 : wr.cell? ⟨g, o + k, none⟩ = some (.float .f64 y) := (hB.cell (p := ⟨g, o + k, none⟩) hg).trans c0
        have d1 : wr.cell? ⟨g', o' + j, none⟩ = some (.float .f64 z) := (hB.cell (p := ⟨g', o' + j, none⟩) hg').trans c1
        have k1 : (k : Int) < (m : Int) := by omega
        have k2 : (k : Int) < (n : Int) := by omega
        have j1 : (j : Int) < (m : Int) := by omega
        have wa : IntKind.i64.wrap ((m : Int) - 1) = (m : Int) - 1 := wrapF (by omega) (by omega)
        have wb : IntKind.i64.wrap ((m : Int) - 1 - (k : Int)) = (j : Int) := by rw [wrapF (by omega) (by omega)]; omega
        obtain ⟨r1, n1, hr1, f1⟩ := fl_run (P := Try.prog) (f := .mul) rfl 25 hy hz wr.drew
        obtain ⟨r2, n2, hr2, f2⟩ := fl_run (P := Try.prog) (f := .add) rfl 25 hx f1 (wr.drewN (1 + n1))
        have HF : Hid (Fl r2 (tapU T X m (k + 1))) := show Fl r2 (opO .add (tapU T X m k) (opO .mul (T k) (X (m - 1 - k)))) by rw [ej]; exact f2
        have HB : Hid (Below w.heap.size w wr) := hB
        clear c0 c1 hg hg' hx hy hz f1 f2 hj ej hB
        go_wp2_with fail
        go_region_held_law (fun w' => w'.cell? ⟨g, o + k, none⟩ = some (.float .f64 y) ∧ w'.cell? ⟨g', o' + j, none⟩ = some (.float .f64 z)) (first | (simp [go_sem, d0, d1]; done) | go_keep) (fail)
        all_goals
          have B4 := HB.out
          go_wp2
          go_roundw
          case rel => exact ⟨k + 1, r2, by omega, by go_num, rfl, HF.out, (by repeat (first | with_reducible exact Below.refl _ _ | with_reducible exact B4 | with_reducible refine Below.setCell ?_ (by first | omega | (simp; done) | (simp; omega)) _ | with_reducible refine bDrewN ?_ _ | with_reducible refine Below.drew ?_ | with_reducible refine Below.alloc ?_ (by first | omega | (simp; done) | (simp; omega)) _))⟩
          case measure => simp [intOf]; omega
      · obtain rfl : k = m := by omega
        go_wp2
        go_ret
        exact ⟨x, rfl, hx, hB⟩
  · have q1 : (n : Int) ≤ (m : Int) := by omega
    rw [show min n m = n by omega]
    go_enter Try.func13, Try.ntmps13
    go_wp2_with fail
    go_loopw [5, 12] (fun q i wr => ∃ (k x : Nat), k ≤ n ∧ i = .int .i64 k ∧ q = .float .f64 x ∧ Fl x (tapU T X m k) ∧ Below w.heap.size w wr) (fun _ i _ => n - (intOf i).toNat)
    case atStart => exact ⟨0, 0, Nat.zero_le _, rfl, rfl, fl_zero, Below.refl _ _⟩
    case round =>
      obtain ⟨k, x, hk, rfl, rfl, hx, hB⟩ := hrel
      by_cases h1 : k < n
      · obtain ⟨j, hj⟩ : ∃ j, m = j + k + 1 := ⟨m - 1 - k, by omega⟩
        have ej : m - 1 - k = j := by omega
        obtain ⟨g, o, y, rfl, hg, c0, hy⟩ := HT.out k (by omega)
        obtain ⟨g', o', z, rfl, hg', c1, hz⟩ := HX.out j (by omega)
        have d0 : wr.cell? ⟨g, o + k, none⟩ = some (.float .f64 y) := (hB.cell (p := ⟨g, o + k, none⟩) hg).trans c0
        have d1 : wr.cell? ⟨g', o' + j, none⟩ = some (.float .f64 z) := (hB.cell (p := ⟨g', o' + j, none⟩) hg').trans c1
        have k1 : (k : Int) < (n : Int) := by omega
        have k2 : (k : Int) < (n : Int) := by omega
        have j1 : (j : Int) < (m : Int) := by omega
        have wa : IntKind.i64.wrap ((m : Int) - 1) = (m : Int) - 1 := wrapF (by omega) (by omega)
        have wb : IntKind.i64.wrap ((m : Int) - 1 - (k : Int)) = (j : Int) := by rw [wrapF (by omega) (by omega)]; omega
        obtain ⟨r1, n1, hr1, f1⟩ := fl_run (P := Try.prog) (f := .mul) rfl 25 hy hz wr.drew
        obtain ⟨r2, n2, hr2, f2⟩ := fl_run (P := Try.prog) (f := .add) rfl 25 hx f1 (wr.drewN (1 + n1))
        have HF : Hid (Fl r2 (tapU T X m (k + 1))) := show Fl r2 (opO .add (tapU T X m k) (opO .mul (T k) (X (m - 1 - k)))) by rw [ej]; exact f2
        have HB : Hid (Below w.heap.size w wr) := hB
        clear c0 c1 hg hg' hx hy hz f1 f2 hj ej hB
        go_wp2_with fail
        go_region_held_law (fun w' => w'.cell? ⟨g, o + k, none⟩ = some (.float .f64 y) ∧ w'.cell? ⟨g', o' + j, none⟩ = some (.float .f64 z)) (first | (simp [go_sem, d0, d1]; done) | go_keep) (fail)
        all_goals
          have B4 := HB.out
          go_wp2
          go_roundw
          case rel => exact ⟨k + 1, r2, by omega, by go_num, rfl, HF.out, (by repeat (first | with_reducible exact Below.refl _ _ | with_reducible exact B4 | with_reducible refine Below.setCell ?_ (by first | omega | (simp; done) | (simp; omega)) _ | with_reducible refine bDrewN ?_ _ | with_reducible refine Below.drew ?_ | with_reducible refine Below.alloc ?_ (by first | omega | (simp; done) | (simp; omega)) _))⟩
          case measure => simp [intOf]; omega
      · obtain rfl : k = n := by omega
        go_wp2
        go_ret
        exact ⟨x, rfl, hx, hB⟩
def filB (p d n : Nat) : Bool := decide (1 ≤ p ∧ p ≤ 8) && (decide (1 ≤ d ∧ d ≤ 8) && decide (n ≤ 1000))
def filM (p d n : Nat) : Nat := if filB p d n = true then n else 0
theorem fil_no {p d n : Nat} (h : filB p d n = false) : filM p d n = 0 := by unfold filM; rw [h]; rfl
theorem fil_yes {p d n : Nat} (h : filB p d n = true) : filM p d n = n := by unfold filM; rw [h]; rfl
theorem own_belowF {w w' : World} {base : Nat} {e : TypeId} {size : Nat} {v : Value} {n : Nat} {xs : List Value} (h : w.ownsRow base e size v n xs) (hs : Below w.heap.size w w') : w'.ownsRow base e size v n xs := by
  refine ⟨h.1, ?_⟩
  rcases h.2 with q | ⟨g, cap, cur, e1, hb, hg, r⟩
  · exact .inl q
  · exact .inr ⟨g, cap, cur, e1, hb, (hs.block g (Array.getElem?_eq_some_iff.1 hg).1).trans hg, r⟩
theorem own_nil (base : Nat) (w : World) (s : Option Addr) (V : Nat → Option Nat) : OwnF base w s 0 V := fun j hj => by omega
end Go.Proofs.Ytebbkcbpecpolaa
