/-
What is proved: the atoms of what is behind a fire, as impl counts them, where the table of molecules holds what the program's text lays.
-/
import Derived.Test.YtphmdnpmekdglaaDoorFlue
namespace Go.Proofs.YtphmdnpmekdglaaDoor
set_option maxRecDepth 40000
open Go.RowKit
set_option linter.unusedVariables false

abbrev inF (x : Int) : Prop := 0 ≤ x ∧ x ≤ 1000000000000
/-- The atoms of one kind in the first k numbers. -/
def psum (G : Nat → Int) (j : Nat) : Nat → Int
  | 0 => 0
  | k + 1 => psum G j k + tb (k * 6 + j) * G k
theorem tb_small (i : Nat) (j : Nat) (hj : j < 5) (hi : i < 9) : 0 ≤ tb (i * 6 + j) ∧ tb (i * 6 + j) ≤ 2 := by
  have h1 : i = 0 ∨ i = 1 ∨ i = 2 ∨ i = 3 ∨ i = 4 ∨ i = 5 ∨ i = 6 ∨ i = 7 ∨ i = 8 := by omega
  have h2 : j = 0 ∨ j = 1 ∨ j = 2 ∨ j = 3 ∨ j = 4 := by omega
  rcases h1 with rfl | rfl | rfl | rfl | rfl | rfl | rfl | rfl | rfl <;> rcases h2 with rfl | rfl | rfl | rfl | rfl <;> decide
theorem mul_small {a n : Int} (ha : 0 ≤ a ∧ a ≤ 2) (hn : inF n) : 0 ≤ a * n ∧ a * n ≤ 2000000000000 := by
  obtain ⟨h1, h2⟩ := ha; obtain ⟨h3, h4⟩ := hn
  have : a = 0 ∨ a = 1 ∨ a = 2 := by omega
  rcases this with rfl | rfl | rfl <;> omega
theorem psum_bd {G : Nat → Int} {j : Nat} (hj : j < 5) : ∀ k, k ≤ 9 → (∀ i, i < k → inF (G i)) → 0 ≤ psum G j k ∧ psum G j k ≤ 2000000000000 * (k : Int)
  | 0, _, _ => by simp [psum]
  | k + 1, hk, h => by
    have a := psum_bd hj k (by omega) fun i hi => h i (by omega)
    have b := mul_small (tb_small k j hj (by omega)) (h k (by omega))
    simp only [psum]
    omega

/-- The atoms that are told of nine numbers. -/
def elemOk (G : Nat → Int) : Bool := (List.range 9).all fun i => decide (inF (G i))
theorem elemOk_iff (G : Nat → Int) : elemOk G = true ↔ ∀ i, i < 9 → inF (G i) := by
  unfold elemOk; rw [List.all_eq_true]
  exact ⟨fun h i hi => of_decide_eq_true (h i (List.mem_range.2 hi)), fun h i hi => decide_eq_true (h i (List.mem_range.1 hi))⟩
def elemV (G : Nat → Int) : Value := if elemOk G = true then .tuple #[.agg #[.int .i64 (psum G 0 9), .int .i64 (psum G 1 9), .int .i64 (psum G 2 9), .int .i64 (psum G 3 9), .int .i64 (psum G 4 9)], .bool true] else .tuple #[.agg #[.int .i64 0, .int .i64 0, .int .i64 0, .int .i64 0, .int .i64 0], .bool false]
theorem elem_yes {G : Nat → Int} (h : ∀ i, i < 9 → inF (G i)) : elemV G = .tuple #[.agg #[.int .i64 (psum G 0 9), .int .i64 (psum G 1 9), .int .i64 (psum G 2 9), .int .i64 (psum G 3 9), .int .i64 (psum G 4 9)], .bool true] := by
  unfold elemV; rw [if_pos ((elemOk_iff G).2 h)]
theorem elem_no {G : Nat → Int} {k : Nat} (hk : k < 9) (h : ¬ inF (G k)) : elemV G = .tuple #[.agg #[.int .i64 0, .int .i64 0, .int .i64 0, .int .i64 0, .int .i64 0], .bool false] := by
  unfold elemV; rw [if_neg (fun g => h ((elemOk_iff G).1 g k hk))]

set_option maxHeartbeats 2000000 in
theorem elements_core (g0 g1 g2 g3 g4 g5 g6 g7 g8 : Int) (w : World) (hT : TabW w)
    (N : Hid (∀ (x : Int) (w : World), x < 0 ∨ 1000000000000 < x → Calls Tryd.prog 34 #[.int .i64 x, .int .i64 0, .int .i64 1000000000000] w fun e w' => e = .returned (.bool false) ∧ w' = w))
    (Y : Hid (∀ (x : Int) (w : World), 0 ≤ x → x ≤ 1000000000000 → Calls Tryd.prog 34 #[.int .i64 x, .int .i64 0, .int .i64 1000000000000] w fun e w' => e = .returned (.bool true) ∧ w' = w)) :
    Calls Tryd.prog 12 #[.agg #[.int .i64 g0, .int .i64 g1, .int .i64 g2, .int .i64 g3, .int .i64 g4, .int .i64 g5, .int .i64 g6, .int .i64 g7, .int .i64 g8]] w fun e w' => e = .returned (elemV (nth g0 g1 g2 g3 g4 g5 g6 g7 g8)) ∧ Below w.heap.size w w' := by
  have C : Hid (∀ w, Calls Tryd.prog 33 #[.agg #[.int .i64 g0, .int .i64 g1, .int .i64 g2, .int .i64 g3, .int .i64 g4, .int .i64 g5, .int .i64 g6, .int .i64 g7, .int .i64 g8]] w fun e w' => e = .returned (.agg #[.int .i64 g0, .int .i64 g1, .int .i64 g2, .int .i64 g3, .int .i64 g4, .int .i64 g5, .int .i64 g6, .int .i64 g7, .int .i64 g8]) ∧ Below w.heap.size w w') := fun w => counts_any g0 g1 g2 g3 g4 g5 g6 g7 g8 w
  have I : Hid (∀ (k : Nat), k < 9 → ∀ w, (Instr.index 54 (.agg #[.int .i64 g0, .int .i64 g1, .int .i64 g2, .int .i64 g3, .int .i64 g4, .int .i64 g5, .int .i64 g6, .int .i64 g7, .int .i64 g8]) (.int .i64 (k : Int))).run Tryd.prog w = .ok (.int .i64 (nth g0 g1 g2 g3 g4 g5 g6 g7 g8 k)) w) := fun k hk w => idx9 g0 g1 g2 g3 g4 g5 g6 g7 g8 k hk w
  have HT : Hid (TabW w) := hT
  clear hT
  generalize nth g0 g1 g2 g3 g4 g5 g6 g7 g8 = G at *
  go_enter Tryd.func12, Tryd.ntmps12
  go_wp2_with fail
  refine (C.out _).mono ?_
  rintro e w1 ⟨rfl, hx⟩
  go_wp2_with fail
  have z1 : w.heap.size + 1 + 1 < w1.heap.size := by have := hx.size; simp at this; omega
  obtain ⟨hc, hf⟩ := bcell hx
  go_loopw [9] (fun i wr => ∃ k : Nat, k ≤ 9 ∧ i = .int .i64 k ∧ Hid (∀ m, m < k → inF (G m)) ∧ Below (w.heap.size + 1 + 1) w1 wr ∧ w.heap.size + 1 + 1 < wr.heap.size ∧ (∀ o, wr.frozen? ⟨w.heap.size + 1 + 1, o, none⟩ = false) ∧ wr.cell? ⟨w.heap.size + 1 + 1, 0, none⟩ = some (.int .i64 (psum G 0 k)) ∧ wr.cell? ⟨w.heap.size + 1 + 1, 1, none⟩ = some (.int .i64 (psum G 1 k)) ∧ wr.cell? ⟨w.heap.size + 1 + 1, 2, none⟩ = some (.int .i64 (psum G 2 k)) ∧ wr.cell? ⟨w.heap.size + 1 + 1, 3, none⟩ = some (.int .i64 (psum G 3 k)) ∧ wr.cell? ⟨w.heap.size + 1 + 1, 4, none⟩ = some (.int .i64 (psum G 4 k))) (fun i _ => 9 - (intOf i).toNat)
  case atStart =>
    refine ⟨0, by omega, rfl, fun m hm => by omega, Below.refl _ _, z1, fun o => ?_, ?_, ?_, ?_, ?_, ?_⟩
    · rw [hf _ _ (by simp)]; simp [go_sem]
    all_goals rw [hc _ _ (by simp)]; simp [go_sem, psum]
  case round =>
    clear hc hf z1
    obtain ⟨k, hk, rfl, hj, hb, hz, hfr, c0, c1, c2, c3, c4⟩ := hrel
    have T : TabW w1 := HT.out.below (Below.trans (by repeat (first | with_reducible exact Below.refl _ _ | with_reducible refine Below.setCell ?_ (by first | omega | (simp; done) | (simp; omega)) _ | with_reducible refine bDrewN ?_ _ | with_reducible refine Below.drew ?_ | with_reducible refine Below.alloc ?_ (by first | omega | (simp; done) | (simp; omega)) _)) (hx.mono (by first | omega | (simp; done) | (simp; omega))) : Below w.heap.size w w1) HT.out.1
    have T2 : TabW wr := T.below hb (Nat.lt_of_lt_of_le HT.out.1 (by omega))
    have rc : ∀ j, j < 5 → wr.cell? ⟨w.heap.size + 1, j, none⟩ = some (.int .i64 0) := fun j hj5 => by
      rw [hb.cell (p := ⟨w.heap.size + 1, j, none⟩) (by simp), hx.cell (p := ⟨w.heap.size + 1, j, none⟩) (by simp)]
      have : j = 0 ∨ j = 1 ∨ j = 2 ∨ j = 3 ∨ j = 4 := by omega
      rcases this with rfl | rfl | rfl | rfl | rfl <;> simp [go_sem]
    have rf : ∀ o, wr.frozen? ⟨w.heap.size + 1, o, none⟩ = false := fun o => by
      rw [hb.frozen (p := ⟨w.heap.size + 1, o, none⟩) (by simp), hx.frozen (p := ⟨w.heap.size + 1, o, none⟩) (by simp)]; simp [go_sem]
    have r0 := rc 0 (by omega); have r1 := rc 1 (by omega); have r2 := rc 2 (by omega); have r3 := rc 3 (by omega); have r4 := rc 4 (by omega)
    have Bx : Below w.heap.size w wr := (Below.trans (by repeat (first | with_reducible exact Below.refl _ _ | with_reducible refine Below.setCell ?_ (by first | omega | (simp; done) | (simp; omega)) _ | with_reducible refine bDrewN ?_ _ | with_reducible refine Below.drew ?_ | with_reducible refine Below.alloc ?_ (by first | omega | (simp; done) | (simp; omega)) _)) (hx.mono (by first | omega | (simp; done) | (simp; omega))) : Below w.heap.size w w1).trans (hb.mono (by omega))
    have sx := Bx.size
    clear rc
    by_cases h9 : k = 9
    · subst h9
      have V : Hid (elemV G = .tuple #[.agg #[.int .i64 (psum G 0 9), .int .i64 (psum G 1 9), .int .i64 (psum G 2 9), .int .i64 (psum G 3 9), .int .i64 (psum G 4 9)], .bool true]) := elem_yes hj.out
      clear hj T T2
      generalize psum G 0 9 = s0 at *
      generalize psum G 1 9 = s1 at *
      generalize psum G 2 9 = s2 at *
      generalize psum G 3 9 = s3 at *
      generalize psum G 4 9 = s4 at *
      go_wp2
      refine bodyPost_ret (v := .tuple #[.agg #[.int .i64 s0, .int .i64 s1, .int .i64 s2, .int .i64 s3, .int .i64 s4], .bool true]) (by simp [results, Tryd.results12, go_sem, r0, r1, r2, r3, r4]) rfl ⟨by rw [V.out], ?_⟩
      exact (by repeat (first | with_reducible exact Below.refl _ _ | with_reducible exact Bx | with_reducible refine Below.setCell ?_ (by first | omega | (simp; done) | (simp; omega)) _ | with_reducible refine bDrewN ?_ _ | with_reducible refine Below.drew ?_ | with_reducible refine Below.alloc ?_ (by first | omega | (simp; done) | (simp; omega)) _))
    · have hk9 : k < 9 := by omega
      have hi := I.out k hk9
      have ki : (k : Int) < 9 := by omega
      by_cases hin : inF (G k)
      · have HN : Hid (∀ m, m < k + 1 → inF (G m)) := fun m hm => by
          by_cases e : m = k
          · rw [e]; exact hin
          · exact hj.out m (by omega)
        have P : Hid (∀ w, Calls Tryd.prog 35 #[.agg #[.int .i64 (psum G 0 k), .int .i64 (psum G 1 k), .int .i64 (psum G 2 k), .int .i64 (psum G 3 k), .int .i64 (psum G 4 k)], .agg #[.int .i64 (tb (k * 6 + 0)), .int .i64 (tb (k * 6 + 1)), .int .i64 (tb (k * 6 + 2)), .int .i64 (tb (k * 6 + 3)), .int .i64 (tb (k * 6 + 4))], .int .i64 (G k)] w fun e w' => e = .returned (.agg #[.int .i64 (psum G 0 k + tb (k * 6 + 0) * G k), .int .i64 (psum G 1 k + tb (k * 6 + 1) * G k), .int .i64 (psum G 2 k + tb (k * 6 + 2) * G k), .int .i64 (psum G 3 k + tb (k * 6 + 3) * G k), .int .i64 (psum G 4 k + tb (k * 6 + 4) * G k)]) ∧ Below w.heap.size w w') := fun w => by
          have pb := fun j (hj5 : j < 5) => psum_bd (G := G) hj5 k hk hj.out
          have mb := fun j (hj5 : j < 5) => mul_small (tb_small k j hj5 hk9) hin
          have p0 := pb 0 (by omega); have p1 := pb 1 (by omega); have p2 := pb 2 (by omega); have p3 := pb 3 (by omega); have p4 := pb 4 (by omega)
          have m0 := mb 0 (by omega); have m1 := mb 1 (by omega); have m2 := mb 2 (by omega); have m3 := mb 3 (by omega); have m4 := mb 4 (by omega)
          exact plus_any _ _ _ _ _ _ _ _ _ _ _ w (by omega) (by omega) (by omega) (by omega) (by omega) (by omega) (by omega) (by omega) (by omega) (by omega) (by omega) (by omega) (by omega) (by omega) (by omega) (by omega) (by omega) (by omega) (by omega) (by omega)
        have t0 := T2.2 (k * 6) (by omega)
        have t1 := T2.2 (k * 6 + 1) (by omega)
        have t2 := T2.2 (k * 6 + 2) (by omega)
        have t3 := T2.2 (k * 6 + 3) (by omega)
        have t4 := T2.2 (k * 6 + 4) (by omega)
        have zr : 1 < wr.heap.size := T2.1
        have E : Hid (psum G 0 (k + 1) = psum G 0 k + tb (k * 6 + 0) * G k ∧ psum G 1 (k + 1) = psum G 1 k + tb (k * 6 + 1) * G k ∧ psum G 2 (k + 1) = psum G 2 k + tb (k * 6 + 2) * G k ∧ psum G 3 (k + 1) = psum G 3 k + tb (k * 6 + 3) * G k ∧ psum G 4 (k + 1) = psum G 4 k + tb (k * 6 + 4) * G k) := ⟨rfl, rfl, rfl, rfl, rfl⟩
        rw [Nat.add_zero] at P E
        obtain ⟨hx1, hx2⟩ := hin
        generalize psum G 0 k = s0 at *
        generalize psum G 1 k = s1 at *
        generalize psum G 2 k = s2 at *
        generalize psum G 3 k = s3 at *
        generalize psum G 4 k = s4 at *
        generalize tb (k * 6) = a0 at *
        generalize tb (k * 6 + 1) = a1 at *
        generalize tb (k * 6 + 2) = a2 at *
        generalize tb (k * 6 + 3) = a3 at *
        generalize tb (k * 6 + 4) = a4 at *
        clear T2 T h9 hk hj
        go_wp2_with (go_at_call 34; refine (Y.out _ _ hx1 hx2).mono ?_; rintro e w2 ⟨rfl, rfl⟩)
        go_region_with (first
          | (go_at_call 35; refine (P.out _).mono ?_; rintro e w3 ⟨rfl, hx3⟩; have B3 : Below w2.heap.size w2 w3 := Below.trans (by repeat (first | with_reducible exact Below.refl _ _ | with_reducible refine Below.setCell ?_ (by first | omega | (simp; done) | (simp; omega)) _ | with_reducible refine bDrewN ?_ _ | with_reducible refine Below.drew ?_ | with_reducible refine Below.alloc ?_ (by first | omega | (simp; done) | (simp; omega)) _)) (hx3.mono (by first | omega | (simp; done) | (simp; omega))); have B4 : Below (w.heap.size + 1 + 1) w1 w3 := (hb.trans (B3.mono (Nat.le_of_lt hz))); have z3 : w.heap.size + 1 + 1 < w3.heap.size := (Nat.lt_of_lt_of_le hz B3.size); have fr3 : ∀ o, w3.frozen? ⟨w.heap.size + 1 + 1, o, none⟩ = false := (fun o => (B3.frozen (p := ⟨w.heap.size + 1 + 1, o, none⟩) hz).trans (hfr o)); have d0 : w3.cell? ⟨w.heap.size + 1 + 1, 0, none⟩ = some (.int .i64 s0) := (B3.cell (p := ⟨w.heap.size + 1 + 1, 0, none⟩) hz).trans c0; have d1 : w3.cell? ⟨w.heap.size + 1 + 1, 1, none⟩ = some (.int .i64 s1) := (B3.cell (p := ⟨w.heap.size + 1 + 1, 1, none⟩) hz).trans c1; have d2 : w3.cell? ⟨w.heap.size + 1 + 1, 2, none⟩ = some (.int .i64 s2) := (B3.cell (p := ⟨w.heap.size + 1 + 1, 2, none⟩) hz).trans c2; have d3 : w3.cell? ⟨w.heap.size + 1 + 1, 3, none⟩ = some (.int .i64 s3) := (B3.cell (p := ⟨w.heap.size + 1 + 1, 3, none⟩) hz).trans c3; have d4 : w3.cell? ⟨w.heap.size + 1 + 1, 4, none⟩ = some (.int .i64 s4) := (B3.cell (p := ⟨w.heap.size + 1 + 1, 4, none⟩) hz).trans c4))
        all_goals
          go_wp2
          go_roundw
          case rel =>
            obtain ⟨E0, E1, E2, E3, E4⟩ := E.out
            refine ⟨k + 1, by omega, by go_num, HN, (by repeat (first | with_reducible exact Below.refl _ _ | with_reducible exact B4 | with_reducible refine Below.setCell ?_ (by first | omega | (simp; done) | (simp; omega)) _ | with_reducible refine bDrewN ?_ _ | with_reducible refine Below.drew ?_ | with_reducible refine Below.alloc ?_ (by first | omega | (simp; done) | (simp; omega)) _)), ?_, fun o => ?_, ?_, ?_, ?_, ?_, ?_⟩
            · simpa using z3
            · simp [fr3]
            · rw [E0]; simp [go_sem, d0]
            · rw [E1]; simp [go_sem, d1]
            · rw [E2]; simp [go_sem, d2]
            · rw [E3]; simp [go_sem, d3]
            · rw [E4]; simp [go_sem, d4]
          case measure => simp [intOf]; omega
      · have V : Hid (elemV G = .tuple #[.agg #[.int .i64 0, .int .i64 0, .int .i64 0, .int .i64 0, .int .i64 0], .bool false]) := elem_no hk9 hin
        have hn : Hid (G k < 0 ∨ 1000000000000 < G k) := by show G k < 0 ∨ 1000000000000 < G k; unfold inF at hin; omega
        clear hin hj T T2 h9 c0 c1 c2 c3 c4
        go_wp2_with (go_at_call 34; refine (N.out _ _ hn.out).mono ?_; rintro e w2 ⟨rfl, rfl⟩)
        refine bodyPost_ret (v := .tuple #[.agg #[.int .i64 0, .int .i64 0, .int .i64 0, .int .i64 0, .int .i64 0], .bool false]) (by simp [results, Tryd.results12, go_sem, r0, r1, r2, r3, r4]) rfl ⟨by rw [V.out], ?_⟩
        exact (by repeat (first | with_reducible exact Below.refl _ _ | with_reducible exact Bx | with_reducible refine Below.setCell ?_ (by first | omega | (simp; done) | (simp; omega)) _ | with_reducible refine bDrewN ?_ _ | with_reducible refine Below.drew ?_ | with_reducible refine Below.alloc ?_ (by first | omega | (simp; done) | (simp; omega)) _))
end Go.Proofs.YtphmdnpmekdglaaDoor
