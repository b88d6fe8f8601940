/-
What is proved: who of a group is awake, as flags in an array, and the flags compared with none.
-/
import Derived.Test.YtlbbdifmjdpfiaaBsNz
import Derived.Laws.Rows
import Derived.Laws.StructEq
namespace Go.Proofs.Ytlbbdifmjdpfiaa
set_option maxRecDepth 40000
open Go.ChangeShapes Go.WideShapes Go.ChangeAt Go.RowKit
set_option linter.unusedVariables false
set_option linter.unusedSimpArgs false

def awkB (V : Nat → Int × Int × Int × Bool × Int) (g : Int) (j : Nat) : Bool := decide ((V j).1 = g) && decide ((V j).2.2.1 ≠ 0)
def blL (V : Nat → Int × Int × Int × Bool × Int) (g : Int) (k : Nat) : List Bool := (List.range 60).map fun j => decide (j < k) && awkB V g j
def flA (V : Nat → Int × Int × Int × Bool × Int) (g : Int) (k : Nat) : Array Value := ((blL V g k).map Value.bool).toArray
theorem blL_len (V : Nat → Int × Int × Int × Bool × Int) (g : Int) (k : Nat) : (blL V g k).length = 60 := by simp [blL]
theorem flA_size (V : Nat → Int × Int × Int × Bool × Int) (g : Int) (k : Nat) : (flA V g k).size = 60 := by simp [flA, blL]
theorem flA_at (V : Nat → Int × Int × Int × Bool × Int) (g : Int) (k : Nat) {j : Nat} (h : j < 60) : (flA V g k)[j]? = some (.bool (decide (j < k) && awkB V g j)) := by simp [flA, blL, h]
theorem flA_set (V : Nat → Int × Int × Int × Bool × Int) (g : Int) {k : Nat} (h : k < 60) : (flA V g k).setIfInBounds k (.bool (awkB V g k)) = flA V g (k + 1) := by
  apply Array.ext_getElem?
  intro i
  rw [Array.getElem?_setIfInBounds]
  by_cases e : k = i
  · subst e
    rw [if_pos rfl, if_pos (by rw [flA_size]; exact h), flA_at V g (k + 1) h]
    simp
  · rw [if_neg e]
    by_cases hi : i < 60
    · rw [flA_at V g k hi, flA_at V g (k + 1) hi]
      have : decide (i < k) = decide (i < k + 1) := by
        by_cases q : i < k
        · simp [q]; omega
        · have : ¬ i < k + 1 := by omega
          simp [q, this]
      rw [this]
    · rw [Array.getElem?_eq_none (by rw [flA_size]; omega), Array.getElem?_eq_none (by rw [flA_size]; omega)]
theorem flA_zero (V : Nat → Int × Int × Int × Bool × Int) (g : Int) : flA V g 0 = #[.bool false, .bool false, .bool false, .bool false, .bool false, .bool false, .bool false, .bool false, .bool false, .bool false, .bool false, .bool false, .bool false, .bool false, .bool false, .bool false, .bool false, .bool false, .bool false, .bool false, .bool false, .bool false, .bool false, .bool false, .bool false, .bool false, .bool false, .bool false, .bool false, .bool false, .bool false, .bool false, .bool false, .bool false, .bool false, .bool false, .bool false, .bool false, .bool false, .bool false, .bool false, .bool false, .bool false, .bool false, .bool false, .bool false, .bool false, .bool false, .bool false, .bool false, .bool false, .bool false, .bool false, .bool false, .bool false, .bool false, .bool false, .bool false, .bool false, .bool false] := by rfl
theorem alo_is (V : Nat → Int × Int × Int × Bool × Int) (n : Nat) (g : Int) (hn : n ≤ 60) : (blL V g n == List.replicate 60 false) = aloB V n g := by
  rw [Bool.eq_iff_iff]
  unfold aloB
  rw [decide_eq_true_iff, beq_iff_eq]
  constructor
  · intro h j hj hq
    have h1 : (blL V g n)[j]? = some (awkB V g j) := by simp [blL, show j < 60 by omega, hj]
    rw [h] at h1
    have h2 : (List.replicate 60 false)[j]? = some false := by rw [List.getElem?_replicate, if_pos (by omega)]
    rw [h2] at h1
    have : awkB V g j = true := by unfold awkB; simp [hq.1, hq.2]
    rw [this] at h1
    cases h1
  · intro h
    apply List.ext_getElem?
    intro j
    by_cases hj : j < 60
    · have h2 : (List.replicate 60 false)[j]? = some false := by rw [List.getElem?_replicate, if_pos hj]
      rw [h2]
      have h1 : (blL V g n)[j]? = some (decide (j < n) && awkB V g j) := by simp [blL, hj]
      rw [h1]
      by_cases q : j < n
      · have := h j q
        have e : awkB V g j = false := by
          unfold awkB
          by_cases a : (V j).1 = g
          · have b : (V j).2.2.1 = 0 := by
              by_cases c : (V j).2.2.1 = 0
              · exact c
              · exact absurd ⟨a, c⟩ this
            simp [b]
          · simp [a]
        simp [e]
      · simp [q]
    · rw [List.getElem?_eq_none (by rw [blL_len]; omega), List.getElem?_eq_none (by simp; omega)]
theorem all_range_eqB : ∀ (xs ys : List Bool), xs.length = ys.length → ((List.range xs.length).all fun i => xs.getD i false == ys.getD i false) = (xs == ys)
  | [], [], _ => rfl
  | x :: xs, y :: ys, h => by
    have ih := all_range_eqB xs ys (by simpa using h)
    rw [List.length_cons, List.range_succ_eq_map, List.all_cons, List.all_map]
    simp only [List.getD_cons_zero, Function.comp_def, List.getD_cons_succ, ih]
    simp [List.cons_beq_cons]
  | [], _ :: _, h => by simp at h
  | _ :: _, [], h => by simp at h
theorem run_equalIn_bools {P : Program} (w : World) (d : Nat) (t e : TypeId) (n : Nat) (ht : P.underlying t = some (.array n e)) (he : P.underlying e = some .bool) (hsz : ∀ w, (sizeOf e).run P w = .ok 1 w)
    (xs ys : List Bool) (hx : xs.length = n) (hy : ys.length = n) :
    (Op.equalIn (d + 2) t (.agg (xs.map Value.bool).toArray) (.agg (ys.map Value.bool).toArray)).run P w = .ok (xs == ys) w := by
  rw [← all_range_eqB xs ys (hx.trans hy.symm), hx, List.range_eq_range', Op.equalIn]
  simp only [Sem.run_bind, run_underlying ht, Result.andThen_ok, hsz, Std.Legacy.Range.forIn_eq_forIn_range', Std.Legacy.Range.size, Nat.sub_zero, Nat.add_sub_cancel, Nat.div_one]
  have hl : ∀ i ∈ List.range' 0 n 1, i < n := fun i hi => by simpa using (List.mem_range'_1.1 hi).2
  generalize List.range' 0 n 1 = l at hl ⊢
  induction l with
  | nil => simp
  | cons i l ih =>
    have hi : i < n := hl i (by simp)
    have px : (part e (xs.map Value.bool).toArray (i * 1)).run P w = .ok (Value.bool (xs.getD i false)) w := by
      simp [part, isAgg, run_underlying he, List.getD, List.getElem?_eq_getElem (show i < xs.length by omega)]
    have py : (part e (ys.map Value.bool).toArray (i * 1)).run P w = .ok (Value.bool (ys.getD i false)) w := by
      simp [part, isAgg, run_underlying he, List.getD, List.getElem?_eq_getElem (show i < ys.length by omega)]
    have pe : (Op.equalIn (d + 1) e (Value.bool (xs.getD i false)) (Value.bool (ys.getD i false))).run P w = .ok (xs.getD i false == ys.getD i false) w := run_equalIn_bool' w d e _ _ he
    simp only [List.forIn_cons, Sem.run_bind, px, py, pe, Result.andThen_ok, List.all_cons]
    cases hb : (xs.getD i false == ys.getD i false)
    · simp
    · simp only [Bool.not_true, Bool.false_eq_true, if_false, Sem.run_pure, Result.andThen_ok, Bool.true_and]
      exact ih fun j hj => hl j (by simp [hj])
def noF : Array Value := ((List.replicate 60 false).map Value.bool).toArray
theorem eql_flags (V : Nat → Int × Int × Int × Bool × Int) (n : Nat) (g : Int) (hn : n ≤ 60) (w : World) : (binOp .eql 115 (.agg (flA V g n)) (.agg noF)).run Try.prog w = .ok (.bool (aloB V n g)) w := by
  rw [run_eql_struct]
  unfold flA noF
  rw [run_equalIn_bools w 9998 115 4 60 Try.underlying115 Try.underlying4 (fun w => by kernel_rfl) _ _ (blL_len V g n) (by simp), alo_is V n g hn]
  rfl
theorem noF_is : noF = #[.bool false, .bool false, .bool false, .bool false, .bool false, .bool false, .bool false, .bool false, .bool false, .bool false, .bool false, .bool false, .bool false, .bool false, .bool false, .bool false, .bool false, .bool false, .bool false, .bool false, .bool false, .bool false, .bool false, .bool false, .bool false, .bool false, .bool false, .bool false, .bool false, .bool false, .bool false, .bool false, .bool false, .bool false, .bool false, .bool false, .bool false, .bool false, .bool false, .bool false, .bool false, .bool false, .bool false, .bool false, .bool false, .bool false, .bool false, .bool false, .bool false, .bool false, .bool false, .bool false, .bool false, .bool false, .bool false, .bool false, .bool false, .bool false, .bool false, .bool false] := by rfl
theorem eql_flags2 (V : Nat → Int × Int × Int × Bool × Int) (n : Nat) (g : Int) (hn : n ≤ 60) (w : World) : (Op.equalIn 10000 115 (.agg (flA V g n)) (.agg #[.bool false, .bool false, .bool false, .bool false, .bool false, .bool false, .bool false, .bool false, .bool false, .bool false, .bool false, .bool false, .bool false, .bool false, .bool false, .bool false, .bool false, .bool false, .bool false, .bool false, .bool false, .bool false, .bool false, .bool false, .bool false, .bool false, .bool false, .bool false, .bool false, .bool false, .bool false, .bool false, .bool false, .bool false, .bool false, .bool false, .bool false, .bool false, .bool false, .bool false, .bool false, .bool false, .bool false, .bool false, .bool false, .bool false, .bool false, .bool false, .bool false, .bool false, .bool false, .bool false, .bool false, .bool false, .bool false, .bool false, .bool false, .bool false, .bool false, .bool false])).run Try.prog w = .ok (aloB V n g) w := by
  rw [← noF_is]
  unfold flA noF
  rw [run_equalIn_bools w 9998 115 4 60 Try.underlying115 Try.underlying4 (fun w => by kernel_rfl) _ _ (blL_len V g n) (by simp), alo_is V n g hn]
theorem build_flags (w : World) : (Instr.build 115 #[]).run Try.prog w = .ok (.agg noF) w := by
  refine run_build w _ _ _ ?_
  kernel_rfl
theorem fl_info (V : Nat → Int × Int × Int × Bool × Int) (g : Int) (k : Nat) : (Try.prog.info? 115).map (·.size) = some (flA V g k).size := by
  rw [flA_size]
  kernel_rfl
theorem fl_one (V : Nat → Int × Int × Int × Bool × Int) (g : Int) (k : Nat) : (flA V g k).all (·.oneCell') = true := by
  simp [flA, Value.oneCell']
def AwAt (w wr : World) (k : Nat) (V : Nat → Int × Int × Int × Bool × Int) (g : Int) : Prop := Below w.heap.size w wr ∧ w.heap.size + 1 + 1 < wr.heap.size ∧ wr.heap[w.heap.size + 1 + 1]? = some (.cells (flA V g k) 115 (0, 0)) ∧ wr.heap[w.heap.size + 1]? = some (.cells (flA V g 0) 115 (0, 0))
theorem aw_on {w wr w3 : World} {k : Nat} {V : Nat → Int × Int × Int × Bool × Int} {g : Int} (hk : k < 60) (h : AwAt w wr k V g) (h3 : Below wr.heap.size wr w3) : AwAt w (w3.setCell ⟨w.heap.size + 1 + 1, k, none⟩ (.bool (awkB V g k))) (k + 1) V g := by
  obtain ⟨h1, h2, h4, h5⟩ := h
  have z3 := h3.size
  have B3 : Below w.heap.size w w3 := h1.trans (h3.mono h1.size)
  have g4 := (h3.block _ h2).trans h4
  have g5 := (h3.block _ (show w.heap.size + 1 < wr.heap.size by omega)).trans h5
  refine ⟨(by repeat (first | with_reducible exact Below.refl _ _ | with_reducible exact B3 | with_reducible refine Below.setCell ?_ (by first | omega | (simp; done) | (simp; omega)) _ | with_reducible refine bDrewN ?_ _ | with_reducible refine Below.drew ?_ | with_reducible refine Below.alloc ?_ (by first | omega | (simp; done) | (simp; omega)) _)), by simp; omega, ?_, ?_⟩
  · rw [setCell_eq_setRow _ _ _ _ _ _ _ g4, setRow_heap _ _ _ _ _ _ g4, flA_set V g hk]
  · rw [Below.heap_setCell _ _ _ _ (by simp only; omega)]
    exact g5
theorem aw_keep {w wr w3 : World} {k : Nat} {V : Nat → Int × Int × Int × Bool × Int} {g : Int} (h : AwAt w wr k V g) (h3 : Below wr.heap.size wr w3) : AwAt w w3 k V g := by
  obtain ⟨h1, h2, h4, h5⟩ := h
  have z3 := h3.size
  exact ⟨h1.trans (h3.mono h1.size), by omega, (h3.block _ h2).trans h4, (h3.block _ (by omega)).trans h5⟩
set_option maxRecDepth 40000 in
set_option maxHeartbeats 8000000 in
theorem awake_any (x : Int) (s : Option Addr) (n c : Nat) (V : Nat → Int × Int × Int × Bool × Int) (g : Int) (w : World) (hn : (n : Int) ≤ 60) (HR : Hid (RowAlarm w s n V)) :
    Calls Try.prog 83 #[.agg #[.int .i64 x, .slice s n c], .int .i64 g] w fun e w' => e = .returned (.agg (flA V g n)) ∧ Below w.heap.size w w' := by
  go_enter Try.func83, Try.ntmps83
  go_upto_region 2 with fail
  obtain ⟨wa, hwa⟩ : ∃ wa, wa = ((w.alloc (.cells #[.int .i64 x, .slice s n c] 26)).alloc (.cells #[.bool false, .bool false, .bool false, .bool false, .bool false, .bool false, .bool false, .bool false, .bool false, .bool false, .bool false, .bool false, .bool false, .bool false, .bool false, .bool false, .bool false, .bool false, .bool false, .bool false, .bool false, .bool false, .bool false, .bool false, .bool false, .bool false, .bool false, .bool false, .bool false, .bool false, .bool false, .bool false, .bool false, .bool false, .bool false, .bool false, .bool false, .bool false, .bool false, .bool false, .bool false, .bool false, .bool false, .bool false, .bool false, .bool false, .bool false, .bool false, .bool false, .bool false, .bool false, .bool false, .bool false, .bool false, .bool false, .bool false, .bool false, .bool false, .bool false, .bool false] 115)).alloc (.cells #[.bool false, .bool false, .bool false, .bool false, .bool false, .bool false, .bool false, .bool false, .bool false, .bool false, .bool false, .bool false, .bool false, .bool false, .bool false, .bool false, .bool false, .bool false, .bool false, .bool false, .bool false, .bool false, .bool false, .bool false, .bool false, .bool false, .bool false, .bool false, .bool false, .bool false, .bool false, .bool false, .bool false, .bool false, .bool false, .bool false, .bool false, .bool false, .bool false, .bool false, .bool false, .bool false, .bool false, .bool false, .bool false, .bool false, .bool false, .bool false, .bool false, .bool false, .bool false, .bool false, .bool false, .bool false, .bool false, .bool false, .bool false, .bool false, .bool false, .bool false] 115) := ⟨_, rfl⟩
  rw [← hwa]
  have p1 : wa.cell? ⟨w.heap.size, 1, none⟩ = some (.slice s n c) := by rw [hwa]; simp [go_sem]
  have HA : Hid (AwAt w wa 0 V g) := by
    rw [hwa]
    refine ⟨(by repeat (first | with_reducible exact Below.refl _ _ | with_reducible refine Below.setCell ?_ (by first | omega | (simp; done) | (simp; omega)) _ | with_reducible refine bDrewN ?_ _ | with_reducible refine Below.drew ?_ | with_reducible refine Below.alloc ?_ (by first | omega | (simp; done) | (simp; omega)) _)), by simp, ?_, ?_⟩
    · rw [flA_zero]
      have := heap_alloc_new ((w.alloc (.cells #[.int .i64 x, .slice s n c] 26)).alloc (.cells #[.bool false, .bool false, .bool false, .bool false, .bool false, .bool false, .bool false, .bool false, .bool false, .bool false, .bool false, .bool false, .bool false, .bool false, .bool false, .bool false, .bool false, .bool false, .bool false, .bool false, .bool false, .bool false, .bool false, .bool false, .bool false, .bool false, .bool false, .bool false, .bool false, .bool false, .bool false, .bool false, .bool false, .bool false, .bool false, .bool false, .bool false, .bool false, .bool false, .bool false, .bool false, .bool false, .bool false, .bool false, .bool false, .bool false, .bool false, .bool false, .bool false, .bool false, .bool false, .bool false, .bool false, .bool false, .bool false, .bool false, .bool false, .bool false, .bool false, .bool false] 115)) (.cells #[.bool false, .bool false, .bool false, .bool false, .bool false, .bool false, .bool false, .bool false, .bool false, .bool false, .bool false, .bool false, .bool false, .bool false, .bool false, .bool false, .bool false, .bool false, .bool false, .bool false, .bool false, .bool false, .bool false, .bool false, .bool false, .bool false, .bool false, .bool false, .bool false, .bool false, .bool false, .bool false, .bool false, .bool false, .bool false, .bool false, .bool false, .bool false, .bool false, .bool false, .bool false, .bool false, .bool false, .bool false, .bool false, .bool false, .bool false, .bool false, .bool false, .bool false, .bool false, .bool false, .bool false, .bool false, .bool false, .bool false, .bool false, .bool false, .bool false, .bool false] 115)
      simpa using this
    · rw [flA_zero, heap_alloc_old _ _ (by simp)]
      have := heap_alloc_new (w.alloc (.cells #[.int .i64 x, .slice s n c] 26)) (.cells #[.bool false, .bool false, .bool false, .bool false, .bool false, .bool false, .bool false, .bool false, .bool false, .bool false, .bool false, .bool false, .bool false, .bool false, .bool false, .bool false, .bool false, .bool false, .bool false, .bool false, .bool false, .bool false, .bool false, .bool false, .bool false, .bool false, .bool false, .bool false, .bool false, .bool false, .bool false, .bool false, .bool false, .bool false, .bool false, .bool false, .bool false, .bool false, .bool false, .bool false, .bool false, .bool false, .bool false, .bool false, .bool false, .bool false, .bool false, .bool false, .bool false, .bool false, .bool false, .bool false, .bool false, .bool false, .bool false, .bool false, .bool false, .bool false, .bool false, .bool false] 115)
      simpa using this
  clear hwa
  go_wp2_with fail
  go_loopw [11] (fun i wr => ∃ k : Nat, k ≤ n ∧ i = .int .i64 k ∧ AwAt w wr k V g) (fun i _ => n - (intOf i).toNat)
  case atStart => exact ⟨0, Nat.zero_le _, rfl, HA.out⟩
  case round =>
    clear HA
    obtain ⟨k, hk, rfl, hC⟩ := hrel
    have HC : Hid (AwAt w wr k V g) := hC
    obtain ⟨hB, hz, hm, ha⟩ := hC
    have f2 : ∀ o, wr.frozen? ⟨w.heap.size + 1 + 1, o, none⟩ = false := fun o => by simp [World.frozen?, hm]
    have zW := hB.size
    by_cases h1 : k < n
    · have e0 : wr.cell? ⟨w.heap.size + 1 + 1, k, none⟩ = some (.bool (decide (k < k) && awkB V g k)) := by
        rw [cell_of_row wr _ _ _ _ _ hm]; exact flA_at _ _ _ (by omega)
      obtain ⟨fb, hfb⟩ : ∃ fb, (decide (k < k) && awkB V g k) = fb := ⟨_, rfl⟩
      rw [hfb] at e0
      obtain ⟨gb, ob, rfl, hg, c0, c1, c2, c3, c4⟩ := HR.out k (by omega)
      replace c0 := (hB.cell (p := ⟨gb, ob + k * 5, none⟩) hg).trans c0
      replace c1 := (hB.cell (p := ⟨gb, ob + k * 5 + 1, none⟩) hg).trans c1
      replace c2 := (hB.cell (p := ⟨gb, ob + k * 5 + 2, none⟩) hg).trans c2
      replace c3 := (hB.cell (p := ⟨gb, ob + k * 5 + 3, none⟩) hg).trans c3
      replace c4 := (hB.cell (p := ⟨gb, ob + k * 5 + 4, none⟩) hg).trans c4
      have zg : gb < wr.heap.size := Nat.lt_of_lt_of_le hg hB.size
      obtain ⟨⟨G, O, T, F, U⟩, hV⟩ : ∃ z, V k = z := ⟨_, rfl⟩
      rw [hV] at c0 c1 c2 c3 c4
      simp only at c0 c1 c2 c3 c4
      have HV : Hid (V k = (G, O, T, F, U)) := hV
      have k1 : (k : Int) < (n : Int) := by omega
      have k60 : (k : Int) < 60 := by omega
      have HW : Hid (awkB V g k = (decide (G = g) && decide (T ≠ 0))) := by show _ = _; unfold awkB; rw [HV.out]
      have ne : ¬ wr.heap.size = w.heap.size + 1 + 1 := by omega
      clear hm ha hV hfb hg
      by_cases eg : G = g
      · subst eg
        by_cases et : T = 0
        · have et' : (T != 0) = false := by simp [et]
          have HQ : Hid (awkB V G k = false) := by show _ = _; rw [HW.out]; simp [et]
          clear et
          go_wp2
          go_roundw
          case rel => exact ⟨k + 1, by omega, by go_num, by have := aw_on (by omega) HC.out (Below.refl wr.heap.size wr); rw [HQ.out] at this; exact aw_keep this (below0 _ _)⟩
          case measure => first | (simp [intOf]; done) | (simp [intOf]; omega)
        · have et' : (T != 0) = true := by simp [et]
          have HQ : Hid (awkB V G k = true) := by show _ = _; rw [HW.out]; simp [et]
          clear et
          go_wp2
          go_roundw
          case rel => exact ⟨k + 1, by omega, by go_num, by have := aw_on (by omega) HC.out (Below.refl wr.heap.size wr); rw [HQ.out] at this; exact aw_keep this (below0 _ _)⟩
          case measure => first | (simp [intOf]; done) | (simp [intOf]; omega)
      · have eg' : (G == g) = false := by simpa using eg
        have HQ : Hid (awkB V g k = false) := by show _ = _; rw [HW.out]; simp [eg]
        clear eg
        go_wp2
        go_roundw
        case rel => exact ⟨k + 1, by omega, by go_num, by have := aw_on (by omega) HC.out (Below.refl wr.heap.size wr); rw [HQ.out] at this; exact aw_keep this (below0 _ _)⟩
        case measure => first | (simp [intOf]; done) | (simp [intOf]; omega)
    · obtain rfl : k = n := by omega
      have hh := setRow_heap wr (w.heap.size + 1) _ (flA V g k) _ _ ha
      have Bz : Below w.heap.size w (wr.setRow (w.heap.size + 1) (flA V g k)) := ⟨hB.os, hB.tape, hB.output, by rw [setRow_size]; exact hB.size, fun k hk => by rw [setRow_other _ _ _ _ (by omega)]; exact hB.block k hk⟩
      have HZ : Hid (Below w.heap.size w (wr.setRow (w.heap.size + 1) (flA V g k)) ∧ (wr.setRow (w.heap.size + 1) (flA V g k)).heap[w.heap.size + 1]? = some (.cells (flA V g k) 115 (0, 0))) := ⟨Bz, hh⟩
      clear hh Bz hB
      go_wp2_with (first
        | refine wpList_load_row (by rfl) 115 (.tmp 5) (by rfl) (w.heap.size + 1 + 1) (by rfl) _ _ _ _ (by exact hm) (by exact Try.underlying115) (by rfl) (by exact fl_info _ _ _) ?_
        | refine wpList_store_row (by rfl) 115 (.tmp 4) (.tmp 28) (by rfl) (w.heap.size + 1) (flA V g k) (by rfl) (by rfl) _ _ (by exact ha) (by exact fl_info _ _ _) (by rw [flA_size, flA_size]) (by exact fl_one _ _ _) ?_)
      have hl := run_loadVar_row (P := Try.prog) _ _ _ 115 _ _ _ HZ.out.2 Try.underlying115 rfl (fl_info _ _ _)
      exact bodyPost_ret (v := .agg (flA V g k)) (by simp [results, Try.results83, Act.put, hl, asAddr]) rfl ⟨rfl, HZ.out.1⟩
end Go.Proofs.Ytlbbdifmjdpfiaa
