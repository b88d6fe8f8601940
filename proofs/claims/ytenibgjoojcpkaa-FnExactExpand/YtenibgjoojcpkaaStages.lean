/-
What is proved: what the law's own helpers do with a list of stages: a copy in new memory, its count, comparing, marking.
-/
import Derived.Test.YtenibgjoojcpkaaF64
namespace Go.Proofs.Ytenibgjoojcpkaa
set_option maxRecDepth 40000
open Go.RowKit
set_option linter.unusedVariables false
set_option linter.unusedSimpArgs false

theorem store_flt : ∀ (W : World) (a : Addr) (x : Nat), (W.cell? a).isSome = true → W.frozen? a = false → (store a (.float .f64 x)).run Try.prog W = .ok () (W.setCell a (.float .f64 x)) := fun W a x h hf => by
  obtain ⟨u, hu⟩ := Option.isSome_iff_exists.1 h
  exact store_f64 x hu hf
set_option maxHeartbeats 400000 in
theorem szStageS_on (s : Option Addr) (n c : Nat) (l : Int) (w : World) (h0 : 0 ≤ l) (h1 : l ≤ 1048576) (hn : (n : Int) ≤ l) : Calls Try.prog 17 #[.slice s n c, .int .i64 l] w fun e w' => e = .returned (.int .i64 (l - (n : Int))) ∧ w' = w := by
  go_enter Try.func17, Try.ntmps17
  go_wp2
  go_ret
  exact ⟨ret_int rfl, rfl⟩
set_option maxHeartbeats 400000 in
theorem szStageS_off (s : Option Addr) (n c : Nat) (l : Int) (w : World) (h0 : 0 ≤ l) (h1 : l ≤ 1048576) (hn : l < (n : Int)) (hn' : (n : Int) ≤ 9223372036854775807) : Calls Try.prog 17 #[.slice s n c, .int .i64 l] w fun e w' => e = .returned (.int .i64 (-1)) ∧ w' = w := by
  go_enter Try.func17, Try.ntmps17
  go_wp2
  go_ret
  exact ⟨ret_int rfl, rfl⟩
set_option maxHeartbeats 400000 in
theorem toStage_any (x y : Nat) (w : World) : Calls Try.prog 53 #[.agg #[.float .f64 x, .float .f64 y]] w fun r w' => r = .returned (.agg #[.float .f64 x, .float .f64 y]) ∧ Below w.heap.size w w' := by
  have st := store_flt
  go_enter Try.func53, Try.ntmps53
  go_wp2
  exact bodyPost_ret (v := .agg #[.float .f64 x, .float .f64 y]) (by simp [results, Try.results53, go_sem]) rfl ⟨rfl, (by repeat (first | with_reducible exact Below.refl _ _ | with_reducible refine Below.setCell ?_ (by first | omega | (simp; done) | (simp; omega)) _ | with_reducible refine bDrewN ?_ _ | with_reducible refine Below.drew ?_ | with_reducible refine Below.alloc ?_ (by first | omega | (simp; done) | (simp; omega)) _))⟩
set_option maxHeartbeats 400000 in
theorem eqStage_any {x y x' y' : Nat} {p q : Option Nat} (hx : Fl x p) (hx' : Fl x' p) (hy : Fl y q) (hy' : Fl y' q) (w : World) : Calls Try.prog 57 #[.agg #[.float .f64 x, .float .f64 y], .agg #[.float .f64 x', .float .f64 y']] w fun r w' => r = .returned (.bool true) ∧ Below w.heap.size w w' := by
  have S1 : Hid (∀ w, Calls Try.prog 22 #[.float .f64 x, .float .f64 x'] w fun e w' => e = .returned (.bool true) ∧ w' = w) := fun w => sameFloat_any hx hx' w
  have S2 : Hid (∀ w, Calls Try.prog 22 #[.float .f64 y, .float .f64 y'] w fun e w' => e = .returned (.bool true) ∧ w' = w) := fun w => sameFloat_any hy hy' w
  clear hx hx' hy hy'
  go_enter Try.func57, Try.ntmps57
  go_wp2_with fail
  refine (S1.out _).mono ?_
  rintro e w1 ⟨rfl, hw1⟩
  subst hw1
  go_wp2_with fail
  refine (S2.out _).mono ?_
  rintro e w1 ⟨rfl, hw1⟩
  subst hw1
  go_wp2
  go_ret
  exact ⟨rfl, (by repeat (first | with_reducible exact Below.refl _ _ | with_reducible refine Below.setCell ?_ (by first | omega | (simp; done) | (simp; omega)) _ | with_reducible refine bDrewN ?_ _ | with_reducible refine Below.drew ?_ | with_reducible refine Below.alloc ?_ (by first | omega | (simp; done) | (simp; omega)) _))⟩
theorem make_stages (n : Nat) (hn : n ≤ 1048576) (w : World) : (Instr.makeSlice 40 (.int .i64 (n : Int)) (.int .i64 (n : Int))).run Try.prog w = .ok (.slice (some ⟨w.heap.size, 0, none⟩) n n) (w.alloc (.cells (madeCells #[.float .f64 0, .float .f64 0] (n * 2)) 77)) := by
  have hinfo : (Try.prog.info? 77).map (fun i => (i.zero, i.size, i.bytes)) = some (some (.agg #[.float .f64 0, .float .f64 0]), 2, 16) := by kernel_rfl
  obtain ⟨i, hi, hzz⟩ := Option.map_eq_some_iff.1 hinfo
  simp only [Prod.mk.injEq] at hzz
  obtain ⟨hz, hs, hb⟩ := hzz
  have hr := run_make (P := Try.prog) w 40 77 i _ Try.underlying40 hi hz .i64 .i64 n n (by omega) (Int.le_refl _) (by rw [hb]; omega) (by omega)
  simp only [Int.toNat_natCast, hs] at hr
  exact hr
/-- A row of float64s on its way: of n cells the first k are V, the others some number, in the block at the end of w. -/
def RowFTo (w wr : World) (n k : Nat) (V : Nat → Option Nat) : Prop := Below w.heap.size w wr ∧ w.heap.size < wr.heap.size ∧ (∀ o, wr.frozen? ⟨w.heap.size, o, none⟩ = false) ∧ ∀ j, j < n → ∃ x, wr.cell? ⟨w.heap.size, j, none⟩ = some (.float .f64 x) ∧ (j < k → Fl x (V j))
theorem rowFTo_start {w : World} {n m : Nat} {z : Array Value} {t : TypeId} {V : Nat → Option Nat} (hz : ∀ j, j < n → (madeCells z m)[j]? = some (.float .f64 0)) : RowFTo w (w.alloc (.cells (madeCells z m) t)) n 0 V :=
  ⟨below0 _ _, by simp, fun o => by simp [go_sem], fun j hj => ⟨0, by simpa [go_sem] using hz j hj, fun h => by omega⟩⟩
theorem rowFTo_keep {w wr w3 : World} {n k : Nat} {V : Nat → Option Nat} (h : RowFTo w wr n k V) (h3 : Below wr.heap.size wr w3) : RowFTo w w3 n k V := by
  obtain ⟨hB, hz, hf, hc⟩ := h
  refine ⟨hB.trans (h3.mono (by omega)), Nat.lt_of_lt_of_le hz h3.size, fun o => (h3.frozen (p := ⟨w.heap.size, o, none⟩) hz).trans (hf o), fun j hj => ?_⟩
  obtain ⟨x, c, hx⟩ := hc j hj
  exact ⟨x, (h3.cell (p := ⟨w.heap.size, j, none⟩) hz).trans c, hx⟩
theorem rowFTo_set {w wr : World} {n k : Nat} {V : Nat → Option Nat} {x : Nat} (h : RowFTo w wr n k V) (hx : Fl x (V k)) : RowFTo w (wr.setCell ⟨w.heap.size, k, none⟩ (.float .f64 x)) n (k + 1) V := by
  obtain ⟨hB, hz, hf, hc⟩ := h
  refine ⟨(by repeat (first | with_reducible exact Below.refl _ _ | with_reducible exact hB | with_reducible refine Below.setCell ?_ (by first | omega | (simp; done) | (simp; omega)) _ | with_reducible refine bDrewN ?_ _ | with_reducible refine Below.drew ?_ | with_reducible refine Below.alloc ?_ (by first | omega | (simp; done) | (simp; omega)) _)), by simpa using hz, fun o => by simp [go_sem, hf], fun j hj => ?_⟩
  obtain ⟨y, c, hy⟩ := hc j hj
  by_cases b : j = k
  · subst b
    exact ⟨x, by simp [go_sem, c], fun _ => hx⟩
  · exact ⟨y, by simp [go_sem, c, b], fun h => hy (by omega)⟩
theorem rowFTo_own {w wr : World} {n : Nat} {V : Nat → Option Nat} (h : RowFTo w wr n n V) : OwnF w.heap.size wr (some ⟨w.heap.size, 0, none⟩) n V := fun j hj => by
  obtain ⟨hB, hz, hf, hc⟩ := h
  obtain ⟨x, c, hx⟩ := hc j hj
  exact ⟨_, x, rfl, Nat.le_refl _, hz, c, hx hj, hf j⟩
theorem made_two (n : Nat) : ∀ j, j < n * 2 → (madeCells #[.float .f64 0, .float .f64 0] (n * 2))[j]? = some (.float .f64 0) := fun j hj => by
  simp only [madeCells, Array.getElem?_map, Array.getElem?_range, hj, if_true, Option.map_some]
  have : j % 2 = 0 ∨ j % 2 = 1 := by omega
  rcases this with h | h
  · show some ((#[Value.float .f64 0, Value.float .f64 0] : Array Value)[j % 2]!) = _
    rw [h]; rfl
  · show some ((#[Value.float .f64 0, Value.float .f64 0] : Array Value)[j % 2]!) = _
    rw [h]; rfl

set_option maxRecDepth 20000 in
set_option maxHeartbeats 2000000 in
theorem toStageS_any (s : Option Addr) (n c : Nat) (V : Nat → Option Nat) (w : World) (hn : (n : Int) ≤ 1048576) (HR : Hid (RowF w s (n * 2) V)) :
    Calls Try.prog 19 #[.slice s n c] w fun e w' => e = .returned (.slice (some ⟨w.heap.size, 0, none⟩) n n) ∧ w.heap.size < w'.heap.size ∧ OwnF w.heap.size w' (some ⟨w.heap.size, 0, none⟩) (n * 2) V ∧ Below w.heap.size w w' := by
  have hmk := make_stages n (by omega)
  have st := store_flt
  go_enter Try.func19, Try.ntmps19
  go_wp2_with fail
  go_loopw [4] (fun i wr => ∃ k : Nat, k ≤ n ∧ i = .int .i64 k ∧ RowFTo w wr (n * 2) (k * 2) V) (fun i _ => n - (intOf i).toNat)
  case atStart => exact ⟨0, Nat.zero_le _, rfl, rowFTo_start (made_two n)⟩
  case round =>
    obtain ⟨k, hk, rfl, hR⟩ := hrel
    have HT : Hid (RowFTo w wr (n * 2) (k * 2) V) := hR
    obtain ⟨hB, hz, hf, hc⟩ := hR
    by_cases h1 : k < n
    · obtain ⟨g, o, x, rfl, hg, c0, hx⟩ := HR.out (k * 2) (by omega)
      obtain ⟨g', o', y, e', hg', c1, hy⟩ := HR.out (k * 2 + 1) (by omega)
      cases e'
      have d0 : wr.cell? ⟨g, o + k * 2, none⟩ = some (.float .f64 x) := (hB.cell (p := ⟨g, o + k * 2, none⟩) hg).trans c0
      have d1 : wr.cell? ⟨g, o + k * 2 + 1, none⟩ = some (.float .f64 y) := (hB.cell (p := ⟨g, o + (k * 2 + 1), none⟩) hg).trans c1
      have k1 : (k : Int) < (n : Int) := by omega
      have HX : Hid (Fl x (V (k * 2)) ∧ Fl y (V (k * 2 + 1))) := ⟨hx, hy⟩
      clear hc hB c0 c1 hg hg' hx hy
      go_wp2_with fail
      refine (toStage_any _ _ _).mono ?_
      rintro r w3 ⟨rfl, h3⟩
      have T3 := rowFTo_keep HT.out h3
      have HT3 : Hid (RowFTo w w3 (n * 2) (k * 2) V) := T3
      obtain ⟨-, z3, fz, hc3⟩ := T3
      obtain ⟨u0, f0, -⟩ := hc3 (k * 2) (by omega)
      obtain ⟨u1, f1, -⟩ := hc3 (k * 2 + 1) (by omega)
      clear hc3 hf h3 d0 d1
      go_wp2
      go_roundw
      case rel => exact ⟨k + 1, by omega, by go_num, by rw [show (k + 1) * 2 = k * 2 + 1 + 1 by omega]; exact rowFTo_set (rowFTo_set HT3.out HX.out.1) HX.out.2⟩
      case measure => simp [intOf]; omega
    · obtain rfl : k = n := by omega
      go_wp2
      go_ret
      exact ⟨rfl, hz, rowFTo_own HT.out, hB⟩

theorem keepF {W W' : World} {p q i j k l : Nat} {a b c d : Value} (h0 : W.cell? ⟨p, i, none⟩ = some a) (h1 : W.cell? ⟨p, j, none⟩ = some b) (h2 : W.cell? ⟨q, k, none⟩ = some c) (h3 : W.cell? ⟨q, l, none⟩ = some d) (hp : p < W.heap.size) (hq : q < W.heap.size) (hb : Below W.heap.size W W') :
    W'.cell? ⟨p, i, none⟩ = some a ∧ W'.cell? ⟨p, j, none⟩ = some b ∧ W'.cell? ⟨q, k, none⟩ = some c ∧ W'.cell? ⟨q, l, none⟩ = some d :=
  ⟨(hb.cell (p := ⟨p, i, none⟩) hp).trans h0, (hb.cell (p := ⟨p, j, none⟩) hp).trans h1, (hb.cell (p := ⟨q, k, none⟩) hq).trans h2, (hb.cell (p := ⟨q, l, none⟩) hq).trans h3⟩
set_option maxRecDepth 20000 in
set_option maxHeartbeats 1000000 in
theorem eqStageS_any (s t : Option Addr) (n c d : Nat) (V : Nat → Option Nat) (w : World) (hn : (n : Int) ≤ 1048576) (HR : Hid (RowF w s (n * 2) V)) (HT : Hid (RowF w t (n * 2) V)) :
    Calls Try.prog 23 #[.slice s n c, .slice t n d] w fun e w' => e = .returned (.bool true) ∧ Below w.heap.size w w' := by
  go_enter Try.func23, Try.ntmps23
  go_wp2_with fail
  go_loopw [5] (fun i wr => ∃ k : Nat, k ≤ n ∧ i = .int .i64 k ∧ Below w.heap.size w wr) (fun i _ => n - (intOf i).toNat)
  case atStart => exact ⟨0, Nat.zero_le _, rfl, Below.refl _ _⟩
  case round =>
    obtain ⟨k, hk, rfl, hB⟩ := hrel
    by_cases h1 : k < n
    · obtain ⟨g, o, x, rfl, hg, c0, hx⟩ := HR.out (k * 2) (by omega)
      obtain ⟨g', o', y, e', hg', c1, hy⟩ := HR.out (k * 2 + 1) (by omega)
      cases e'
      obtain ⟨p, q, x', rfl, hp, d0, hx'⟩ := HT.out (k * 2) (by omega)
      obtain ⟨p', q', y', e', hp', d1, hy'⟩ := HT.out (k * 2 + 1) (by omega)
      cases e'
      have u0 : wr.cell? ⟨g, o + k * 2, none⟩ = some (.float .f64 x) := (hB.cell (p := ⟨g, o + k * 2, none⟩) hg).trans c0
      have u1 : wr.cell? ⟨g, o + k * 2 + 1, none⟩ = some (.float .f64 y) := (hB.cell (p := ⟨g, o + (k * 2 + 1), none⟩) hg).trans c1
      have v0 : wr.cell? ⟨p, q + k * 2, none⟩ = some (.float .f64 x') := (hB.cell (p := ⟨p, q + k * 2, none⟩) hp).trans d0
      have v1 : wr.cell? ⟨p, q + k * 2 + 1, none⟩ = some (.float .f64 y') := (hB.cell (p := ⟨p, q + (k * 2 + 1), none⟩) hp).trans d1
      have k1 : (k : Int) < (n : Int) := by omega
      have zg : g < wr.heap.size := Nat.lt_of_lt_of_le hg hB.size
      have zp : p < wr.heap.size := Nat.lt_of_lt_of_le hp hB.size
      have HB : Hid (Below w.heap.size w wr) := hB
      have ES : Hid (∀ w, Calls Try.prog 57 #[.agg #[.float .f64 x, .float .f64 y], .agg #[.float .f64 x', .float .f64 y']] w fun r w' => r = .returned (.bool true) ∧ Below w.heap.size w w') := fun w => eqStage_any hx hx' hy hy' w
      clear hB c0 c1 d0 d1 hg hg' hp hp' hx hx' hy hy'
      go_wp2_with fail
      go_region_held3 (fun w' => w'.cell? ⟨g, o + k * 2, none⟩ = some (.float .f64 x) ∧ w'.cell? ⟨g, o + k * 2 + 1, none⟩ = some (.float .f64 y) ∧ w'.cell? ⟨p, q + k * 2, none⟩ = some (.float .f64 x') ∧ w'.cell? ⟨p, q + k * 2 + 1, none⟩ = some (.float .f64 y')) (first | (refine keepF u0 u1 v0 v1 zg zp ?_; exact (by repeat (first | with_reducible exact Below.refl _ _ | with_reducible exact B3 | with_reducible refine Below.setCell ?_ (by first | omega | (simp; done) | (simp; omega)) _ | with_reducible refine bDrewN ?_ _ | with_reducible refine Below.drew ?_ | with_reducible refine Below.alloc ?_ (by first | omega | (simp; done) | (simp; omega)) _)))) (first
        | (go_at_call 57; refine (ES.out _).mono ?_; rintro r w3 ⟨rfl, h3⟩; have B3 : Below wr.heap.size wr w3 := Below.trans (by repeat (first | with_reducible exact Below.refl _ _ | with_reducible refine Below.setCell ?_ (by first | omega | (simp; done) | (simp; omega)) _ | with_reducible refine bDrewN ?_ _ | with_reducible refine Below.drew ?_ | with_reducible refine Below.alloc ?_ (by first | omega | (simp; done) | (simp; omega)) _)) (h3.mono (by first | omega | (simp; done) | (simp; omega)))))
      all_goals
        have B4 : Below w.heap.size w w3 := HB.out.trans (B3.mono HB.out.size)
        go_wp2
        go_roundw
        case rel => exact ⟨k + 1, by omega, by go_num, (by repeat (first | with_reducible exact Below.refl _ _ | with_reducible exact B4 | with_reducible refine Below.setCell ?_ (by first | omega | (simp; done) | (simp; omega)) _ | with_reducible refine bDrewN ?_ _ | with_reducible refine Below.drew ?_ | with_reducible refine Below.alloc ?_ (by first | omega | (simp; done) | (simp; omega)) _))⟩
        case measure => simp [intOf]; omega
    · obtain rfl : k = n := by omega
      go_wp2
      go_ret
      exact ⟨rfl, (by repeat (first | with_reducible exact Below.refl _ _ | with_reducible exact hB | with_reducible refine Below.setCell ?_ (by first | omega | (simp; done) | (simp; omega)) _ | with_reducible refine bDrewN ?_ _ | with_reducible refine Below.drew ?_ | with_reducible refine Below.alloc ?_ (by first | omega | (simp; done) | (simp; omega)) _))⟩

set_option maxRecDepth 20000 in
set_option maxHeartbeats 2000000 in
theorem markStageS_at (b n c : Nat) (k : Int) (V : Nat → Option Nat) (w : World) (hn : (n : Int) ≤ 1048576) (k0 : 0 ≤ k) (k1 : k ≤ 100000000) (hb : b < w.heap.size) (HR : Hid (∀ j, j < n * 2 → (∃ x, w.cell? ⟨b, j, none⟩ = some (.float .f64 x) ∧ Fl x (V j)) ∧ w.frozen? ⟨b, j, none⟩ = false)) :
    Calls Try.prog 24 #[.slice (some ⟨b, 0, none⟩) n c, .int .i64 k] w fun e w' => e = .returned (.int .i64 (k + (n * 2 : Nat))) ∧ MarkFTo b w w' (n * 2) (n * 2) k V := by
  have st := store_flt
  go_enter Try.func24, Try.ntmps24
  go_wp2_with fail
  go_loopw [1, 5] (fun q i wr => ∃ j : Nat, j ≤ n ∧ i = .int .i64 j ∧ q = .int .i64 (k + (j * 2 : Nat)) ∧ MarkFTo b w wr (n * 2) (j * 2) k V) (fun _ i _ => n - (intOf i).toNat)
  case atStart => exact ⟨0, Nat.zero_le _, rfl, by simp, (Beside.of (Below.refl _ _)), fun o ho => (HR.out o ho).2, fun i hi => by rw [if_neg (by omega)]; exact (HR.out i hi).1⟩
  case round =>
    obtain ⟨j, hj, rfl, rfl, hR⟩ := hrel
    have HT : Hid (MarkFTo b w wr (n * 2) (j * 2) k V) := hR
    obtain ⟨hB, hf, hc⟩ := hR
    by_cases h1 : j < n
    · obtain ⟨x, e0, _⟩ := hc (j * 2) (by omega)
      obtain ⟨y, e1, _⟩ := hc (j * 2 + 1) (by omega)
      have f0 := hf (j * 2) (by omega)
      have f1 := hf (j * 2 + 1) (by omega)
      have k1 : (j : Int) < (n : Int) := by omega
      have cv : ∀ k w, (convert 3 34 (.int .i64 k)).run Try.prog w = .ok (.float .f64 (itf k)) w := fun k w => conv_run k w
      have T2 : Hid (MarkFTo b w ((wr.setCell ⟨b, j * 2, none⟩ (.float .f64 (itf (k + (j * 2 : Nat))))).setCell ⟨b, j * 2 + 1, none⟩ (.float .f64 (itf (k + (j * 2 + 1 : Nat))))) (n * 2) (j * 2 + 1 + 1) k V) := markFTo_on hb (markFTo_on hb HT.out)
      simp only [Int.natCast_mul, Int.natCast_add, Int.cast_ofNat_Int, Int.natCast_one] at T2 ⊢
      clear hc hf hB
      go_wp2
      go_roundw
      case rel => exact ⟨j + 1, by omega, by go_num, by first | go_num | (congr 1; omega), by rw [show (j + 1) * 2 = j * 2 + 1 + 1 by omega]; have := T2.out; rw [← Int.add_assoc] at this; exact this⟩
      case measure => simp [intOf]; omega
    · obtain rfl : j = n := by omega
      go_wp2
      go_ret
      exact ⟨rfl, HT.out⟩
set_option maxHeartbeats 1000000 in
theorem markStageS_nil (s : Option Addr) (c : Nat) (k : Int) (w : World) :
    Calls Try.prog 24 #[.slice s 0 c, .int .i64 k] w fun e w' => e = .returned (.int .i64 k) ∧ w' = w := by
  go_enter Try.func24, Try.ntmps24
  go_wp2_with fail
  go_loop [1, 5] (fun q i => i = .int .i64 0 ∧ q = .int .i64 k) (fun _ i => 0)
  case atStart => exact ⟨rfl, rfl⟩
  case round =>
    obtain ⟨rfl, rfl⟩ := hrel
    go_wp2
    go_ret
    exact ⟨rfl, rfl⟩
theorem markStageS_own (base : Nat) (s : Option Addr) (n c : Nat) (k : Int) (V : Nat → Option Nat) (w : World) (hn : (n : Int) ≤ 1048576) (k0 : 0 ≤ k) (k1 : k ≤ 100000000) (hb : base ≤ w.heap.size) (HR : OwnF base w s (n * 2) V) :
    Calls Try.prog 24 #[.slice s n c, .int .i64 k] w fun e w' => e = .returned (.int .i64 (k + (n * 2 : Nat))) ∧ OwnF base w' s (n * 2) (markF k) ∧ Below base w w' ∧ ∀ b, s = some ⟨b, 0, none⟩ → Beside b w w' := by
  by_cases h : n = 0
  · subst h
    refine (markStageS_nil s c k w).mono ?_
    rintro e w' ⟨rfl, rfl⟩
    exact ⟨by simp, fun j hj => by omega, Below.refl _ _, fun b _ => Beside.of (Below.refl _ _)⟩
  · obtain ⟨b, _, rfl, hB, hl, _⟩ := HR 0 (by omega)
    have HH : Hid (∀ j, j < n * 2 → (∃ x, w.cell? ⟨b, j, none⟩ = some (.float .f64 x) ∧ Fl x (V j)) ∧ w.frozen? ⟨b, j, none⟩ = false) := fun j hj => by
      obtain ⟨b', x, e', _, _, h1, h2, h3⟩ := HR j hj
      cases e'
      exact ⟨⟨x, h1, h2⟩, h3⟩
    refine (markStageS_at b n c k V w hn k0 k1 hl HH).mono ?_
    rintro e w' ⟨rfl, hB', hf, hc⟩
    refine ⟨rfl, fun j hj => ?_, hB'.below hB hb, fun b' e => ?_⟩
    · obtain ⟨x, q1, q2⟩ := hc j hj
      rw [if_pos hj] at q2
      exact ⟨b, x, rfl, hB, Nat.lt_of_lt_of_le hl hB'.2.2.2.1, q1, q2, hf j hj⟩
    · cases e
      exact hB'
end Go.Proofs.Ytenibgjoojcpkaa
