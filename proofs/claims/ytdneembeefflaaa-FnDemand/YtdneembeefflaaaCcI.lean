/-
What is proved: slices.Grow of no list, slices.Concat of three lists of int64s, and a row of sayings.
-/
import Derived.Test.YtdneembeefflaaaRpC
import Derived.Test.YtdneembeefflaaaCat
import Derived.Test.YtdneembeefflaaaOwnV
import Derived.Lib.AppendZerosOnto
import Derived.Deep.DeepCutAuto
namespace Go.Proofs.Ytdneembeefflaaa
set_option maxRecDepth 40000
open Go.ChangeShapes Go.WideShapes Go.ChangeAt Go.RowKit
set_option linter.unusedVariables false
set_option linter.unusedSimpArgs false

theorem cat_i64 {ops : Array Oper} {rest : List Oper} {o : Oper} {a : Act} {Q : Exit → Act → World → Prop} {W : World} (base : Nat) (v : Value) (k : Nat) (U : Nat → Int) (s z : Operand) (ad : Addr) (n c : Nat) (X : Nat → Int) (hgd : o.guard = none)
    (ho : o.op = .call { callee := .builtin .append, args := #[s, z], argTypes := #[25, 25] }) (hs : a.eval s = v) (hx : a.eval z = .slice (some ad) n c) (hown : W.ownsRow base 2 1 v k (vals U k)) (hk : k ≤ 100000) (hn : n ≤ 100000) (hb : base ≤ W.heap.size) (R : RowI W (some ad) n X)
    (h : ∀ v' w', w'.ownsRow base 2 1 v' (k + n) (vals U k ++ vals X n) → Below base W w' → wpList Try.prog ops Q rest (a.put o.dst v') w') :
    wpList Try.prog ops Q (o :: rest) a W := by
  obtain ⟨i0, hi, hz0, hz1, hz2⟩ := info_parts info_i64
  refine wpList_append_own _ hgd s z 25 ho base 2 i0 (.int .i64 0) 1 8 Try.underlying25 hi hz0 hz1 hz2 rfl (by decide) v k (vals U k) hs hown ad n c (vals X n) hx (by rw [vals_length, Nat.mul_one]) (row_addL R) ?_ (by unfold maxLen; omega) (by omega) hb ?_
  · intro u hu
    simp only [vals, List.mem_map] at hu
    obtain ⟨j, _, rfl⟩ := hu
    rfl
  · intro v' w' h2 h3 _
    exact h v' w' h2 (grown_below h3 hb (own_block hown))
theorem grow_run (k : Nat) (h0 : 0 < k) (h1 : k ≤ 40) (ty : TypeId) (w : World) : (Builtin.append_ #[25, 3] ty #[.slice none 0 0, .int .i64 (k : Int)]).run Try.prog w = .ok (.slice (some ⟨w.heap.size, 0, none⟩) k (grownCap w k 0 2)) (w.drew.alloc (.cells (Builtin.zeroCells #[.int .i64 0] k ++ Builtin.zeroCells #[.int .i64 0] (grownCap w k 0 2 - k)) 2)) := by
  obtain ⟨i0, hi, hz0, hz1, hz2⟩ := info_parts info_i64
  have hf : Builtin.nextslicecap (0 + k) 0 * i0.bytes ≤ 281474976710656 := by
    rw [hz2]
    have hc : k = 1 ∨ k = 2 ∨ k = 3 ∨ k = 4 ∨ k = 5 ∨ k = 6 ∨ k = 7 ∨ k = 8 ∨ k = 9 ∨ k = 10 ∨ k = 11 ∨ k = 12 ∨ k = 13 ∨ k = 14 ∨ k = 15 ∨ k = 16 ∨ k = 17 ∨ k = 18 ∨ k = 19 ∨ k = 20 ∨ k = 21 ∨ k = 22 ∨ k = 23 ∨ k = 24 ∨ k = 25 ∨ k = 26 ∨ k = 27 ∨ k = 28 ∨ k = 29 ∨ k = 30 ∨ k = 31 ∨ k = 32 ∨ k = 33 ∨ k = 34 ∨ k = 35 ∨ k = 36 ∨ k = 37 ∨ k = 38 ∨ k = 39 ∨ k = 40 := by omega
    rcases hc with rfl | rfl | rfl | rfl | rfl | rfl | rfl | rfl | rfl | rfl | rfl | rfl | rfl | rfl | rfl | rfl | rfl | rfl | rfl | rfl | rfl | rfl | rfl | rfl | rfl | rfl | rfl | rfl | rfl | rfl | rfl | rfl | rfl | rfl | rfl | rfl | rfl | rfl | rfl | rfl <;> decide
  have := Lib.run_append_grow_zeros (P := Try.prog) w 25 3 ty 2 i0 (.int .i64 0) .i64 .i64 Try.underlying25 Try.underlying3 hi hz0 none 0 0 [] (run_firstCells_none _ _ _ _ _) k h0 (by rw [hz1]; decide) (by omega) (by omega) (by rw [hz2]; omega) hf
  have e : (Value.int IntKind.i64 0).cells = #[.int .i64 0] := rfl
  rw [e] at this
  simpa using this
theorem list_grow {ops : Array Oper} {rest : List Oper} {o : Oper} {a : Act} {Q : Exit → Act → World → Prop} {W : World} (s z : Operand) (k : Nat) (v : Value) (w' : World) (hgd : o.guard = none)
    (ho : o.op = .call { callee := .builtin .append, args := #[s, z], argTypes := #[25, 3] }) (hs : a.eval s = .slice none 0 0) (hx : a.eval z = .int .i64 (k : Int)) (hr : (Builtin.append_ #[25, 3] o.type #[.slice none 0 0, .int .i64 (k : Int)]).run Try.prog W = .ok v w')
    (h : wpList Try.prog ops Q rest (a.put o.dst v) w') : wpList Try.prog ops Q (o :: rest) a W := by
  refine wpList_plain hgd fun K hK => ?_
  unfold Oper.wp execOp
  simp only [ho, resolve, invoke, builtin, Sem.run_bind, Sem.run_pure, Result.andThen_ok, List.map_toArray, List.map_cons, List.map_nil, hs, hx, hr]
  exact hK _ _ h
theorem zc_size (k : Nat) : (Builtin.zeroCells #[Value.int .i64 0] k).size = k := by simp [Builtin.zeroCells]
theorem grow_owns (w : World) (k : Nat) (h1 : k ≤ 40) : (w.drew.alloc (.cells (Builtin.zeroCells #[.int .i64 0] k ++ Builtin.zeroCells #[.int .i64 0] (grownCap w k 0 2 - k)) 2)).ownsRow w.heap.size 2 1 (.slice (some ⟨w.heap.size, 0, none⟩) 0 (grownCap w k 0 2)) 0 [] := by
  have hge := grownCap_ge w k 0 2
  have hle := grownCap_le_maxLen w k 0 2 (by unfold maxLen; omega)
  refine ⟨rfl, .inr ⟨w.heap.size, grownCap w k 0 2, _, rfl, Nat.le_refl _, heap_alloc_new w.drew _, by omega, hle, ?_, by simp⟩⟩
  rw [Array.size_append, zc_size, zc_size]
  omega
set_option maxRecDepth 20000 in
set_option maxHeartbeats 2000000 in
theorem growNil_any (k : Nat) (h0 : 0 < k) (h1 : k ≤ 40) (w : World) : Calls Try.prog 25 #[.slice none 0 0, .int .i64 (k : Int)] w fun e w' => ∃ g cap, e = .returned (.slice (some ⟨g, 0, none⟩) 0 cap) ∧ w'.ownsRow w.heap.size 2 1 (.slice (some ⟨g, 0, none⟩) 0 cap) 0 [] ∧ Below w.heap.size w w' := by
  have hr := fun ty => grow_run k h0 h1 ty w
  have HO : Hid ((w.drew.alloc (.cells (Builtin.zeroCells #[.int .i64 0] k ++ Builtin.zeroCells #[.int .i64 0] (grownCap w k 0 2 - k)) 2)).ownsRow w.heap.size 2 1 (.slice (some ⟨w.heap.size, 0, none⟩) 0 (grownCap w k 0 2)) 0 []) := grow_owns w k h1
  have k1 : (0 : Int) < (k : Int) := by omega
  have k2 : (k : Int) ≤ 40 := by omega
  have hge := grownCap_ge w k 0 2
  obtain ⟨cp, hcp⟩ : ∃ cp, grownCap w k 0 2 = cp := ⟨_, rfl⟩
  rw [hcp] at hr HO hge
  clear hcp
  obtain ⟨cs, hcs⟩ : ∃ cs, Builtin.zeroCells #[.int .i64 0] k ++ Builtin.zeroCells #[.int .i64 0] (cp - k) = cs := ⟨_, rfl⟩
  rw [hcs] at hr HO
  clear hcs
  have c0 : (0 : Int) ≤ (cp : Int) := by omega
  go_enter Try.func25, Try.ntmps25
  go_wp2_with (first | (at_builtin; refine list_grow _ _ k _ _ (by rfl) (by rfl) (by rfl) (by rfl) (hr _) ?_))
  go_ret
  exact ⟨_, _, rfl, HO.out, (by repeat (first | with_reducible exact Below.refl _ _ | with_reducible refine Below.setCell ?_ (by first | omega | (simp; done) | (simp; omega)) _ | with_reducible refine bDrewN ?_ _ | with_reducible refine Below.drew ?_ | with_reducible refine Below.alloc ?_ (by first | omega | (simp; done) | (simp; omega)) _))⟩
/-- Three lists whose places lie in a block. -/
def ThreeAt (w : World) (p : Nat) (S : Nat → Option Addr) (N C : Nat → Nat) (V : Nat → Nat → Int) : Prop := p < w.heap.size ∧ ∀ j, j < 3 → w.cell? ⟨p, j, none⟩ = some (.slice (S j) (N j) (C j)) ∧ (∃ a, S j = some a) ∧ RowI w (S j) (N j) (V j)
theorem ThreeAt.below {w w' : World} {p : Nat} {S : Nat → Option Addr} {N C : Nat → Nat} {V : Nat → Nat → Int} (h : ThreeAt w p S N C V) (hb : Below w.heap.size w w') : ThreeAt w' p S N C V :=
  ⟨Nat.lt_of_lt_of_le h.1 hb.size, fun j hj => ⟨(hb.cell (p := ⟨p, j, none⟩) h.1).trans (h.2 j hj).1, (h.2 j hj).2.1, (h.2 j hj).2.2.below hb⟩⟩
def sumN (N : Nat → Nat) : Nat → Nat
  | 0 => 0
  | j + 1 => sumN N j + N j
def ccU (N : Nat → Nat) (V : Nat → Nat → Int) : Nat → Nat → Int
  | 0 => fun _ => 0
  | j + 1 => catU (ccU N V j) (sumN N j) (V j)
theorem cc_vals (N : Nat → Nat) (V : Nat → Nat → Int) (j : Nat) : vals (ccU N V (j + 1)) (sumN N (j + 1)) = vals (ccU N V j) (sumN N j) ++ vals (V j) (N j) := vals_catN _ _ _ _
theorem sumN_le {N : Nat → Nat} {M : Nat} (h : ∀ j, j < 3 → N j ≤ M) : ∀ j, j ≤ 3 → sumN N j ≤ j * M
  | 0, _ => by simp [sumN]
  | j + 1, hj => by
    have := sumN_le h j (by omega)
    have := h j (by omega)
    unfold sumN
    rw [Nat.add_mul]
    omega
set_option maxRecDepth 20000 in
set_option maxHeartbeats 4000000 in
theorem concat3_any (p : Nat) (S : Nat → Option Addr) (N C : Nat → Nat) (V : Nat → Nat → Int) (w : World) (hN : ∀ j, j < 3 → N j ≤ 8) (h1 : 1 ≤ sumN N 3) (HT : Hid (ThreeAt w p S N C V)) :
    Calls Try.prog 19 #[.slice (some ⟨p, 0, none⟩) 3 3] w fun e w' => ∃ s c, e = .returned (.slice s (sumN N 3) c) ∧ RowI w' s (sumN N 3) (ccU N V 3) ∧ Below w.heap.size w w' := by
  have HL : Hid (∀ j, j ≤ 3 → sumN N j ≤ j * 8) := sumN_le hN
  have HN : Hid (∀ j, j < 3 → N j ≤ 8) := hN
  have H3 : Hid (1 ≤ sumN N 3) := h1
  clear hN h1
  go_enter Try.func19, Try.ntmps19
  go_wp2_with fail
  go_loopw [3, 11] (fun v i wr => ∃ j : Nat, j ≤ 3 ∧ i = .int .i64 (j : Int) ∧ v = .int .i64 (sumN N j : Int) ∧ wr = w) (fun _ i _ => 3 - (intOf i).toNat)
  case atStart => exact ⟨0, by omega, rfl, rfl, rfl⟩
  case round =>
    obtain ⟨j, hj, rfl, rfl, rfl⟩ := hrel
    by_cases hlt : j < 3
    · obtain ⟨zp, hc⟩ := HT.out
      obtain ⟨cj, -, -⟩ := hc j hlt
      have j1 : (j : Int) < 3 := by omega
      have l1 := HL.out j hj
      have l2 := HN.out j hlt
      have HE : Hid (sumN N (j + 1) = sumN N j + N j) := rfl
      obtain ⟨A, hA⟩ : ∃ A, sumN N j = A := ⟨_, rfl⟩
      obtain ⟨B, hB⟩ : ∃ B, N j = B := ⟨_, rfl⟩
      rw [hA] at l1 HE ⊢
      rw [hB] at l2 HE cj
      clear hA hB hc
      have wab : IntKind.i64.wrap ((A : Int) + (B : Int)) = (A : Int) + (B : Int) := by rw [IntKind.wrap_i64]; omega
      have nab : decide ((A : Int) + (B : Int) < 0) = false := decide_eq_false (by omega)
      go_wp2
      go_roundw
      case rel => first | exact ⟨j + 1, by omega, by go_num, by rw [HE.out]; simp, rfl⟩ | exact ⟨j + 1, by omega, by go_num, by rw [HE.out]; simp, trivial⟩
      case measure => simp [intOf]; omega
    · obtain rfl : j = 3 := by omega
      rename World => w0
      have l1 := HL.out 3 (by omega)
      have l0 := H3.out
      obtain ⟨A, hA⟩ : ∃ A, sumN N 3 = A := ⟨_, rfl⟩
      have HA : Hid (sumN N 3 = A) := hA
      rw [hA] at l0 l1 ⊢
      clear hA
      go_wp2_with fail
      refine (growNil_any A (by omega) (by omega) _).mono ?_
      rintro e w2 ⟨g, cap, rfl, ow, h2⟩
      have HOW : Hid (w2.ownsRow w0.heap.size 2 1 (.slice (some ⟨g, 0, none⟩) 0 cap) 0 []) := ow
      have HB2 : Hid (Below w0.heap.size w0 w2) := h2
      clear ow h2
      go_wp2_with fail
      go_loopw [6, 27] (fun v i wr => ∃ j : Nat, j ≤ 3 ∧ i = .int .i64 (j : Int) ∧ Hid (wr.ownsRow w0.heap.size 2 1 v (sumN N j) (vals (ccU N V j) (sumN N j))) ∧ Hid (Below w0.heap.size w0 wr)) (fun _ i _ => 3 - (intOf i).toNat)
      case atStart => exact ⟨0, by omega, rfl, HOW, HB2⟩
      case round =>
        clear HOW HB2
        obtain ⟨j, hj, rfl, HOW, HB⟩ := hrel
        have HTr : Hid (ThreeAt wr p S N C V) := HT.out.below HB.out
        by_cases hlt : j < 3
        · obtain ⟨zp, hc⟩ := HTr.out
          obtain ⟨cj, ⟨a, ea⟩, rj⟩ := hc j hlt
          rw [ea] at cj rj
          have l1 := HL.out j hj
          have l2 := HN.out j hlt
          have j1 : (j : Int) < 3 := by omega
          have zB : w0.heap.size ≤ wr.heap.size := HB.out.size
          have RJ : Hid (RowI wr (some a) (N j) (V j)) := rj
          clear hc rj ea
          go_wp2_with (first | (at_builtin; refine cat_i64 w0.heap.size _ (sumN N j) (ccU N V j) _ _ a (N j) (C j) (V j) (by rfl) (by rfl) (by rfl) (by rfl) HOW.out (by omega) (by omega) zB RJ.out ?_; intro v9 w9 o9 b9))
          have HN9 : Hid (w9.ownsRow w0.heap.size 2 1 v9 (sumN N (j + 1)) (vals (ccU N V (j + 1)) (sumN N (j + 1)))) := by
            show World.ownsRow _ _ _ _ _ _ _
            rw [cc_vals]
            exact o9
          have HB9 : Hid (Below w0.heap.size w0 w9) := HB.out.trans b9
          clear o9 b9
          go_roundw
          case rel => exact ⟨j + 1, by omega, by go_num, HN9, HB9⟩
          case measure => simp [intOf]; omega
        · obtain rfl : j = 3 := by omega
          obtain ⟨s', cap', ev, OW⟩ := own_OwnI (size := 1) (n := sumN N 3) (U := ccU N V 3) (by rw [Nat.mul_one]; exact HOW.out)
          rw [Nat.mul_one] at OW
          subst ev
          have HF : Hid (RowI wr s' (sumN N 3) (ccU N V 3)) := OW.row
          clear OW HOW
          go_wp2
          go_ret
          first | exact ⟨s', cap', rfl, HF.out, HB.out⟩ | exact ⟨s', cap', by rw [HA.out], HF.out, HB.out⟩ | exact ⟨s', cap', by rw [HA.out], by rw [← HA.out]; exact HF.out, HB.out⟩
set_option maxHeartbeats 1000000 in
theorem manySay_any (k : Nat) (x : Int) (w : World) (h1 : k ≤ 8) : Calls Try.prog 18 #[.int .i64 (k : Int), .int .i64 x] w fun e w' => ∃ b, e = .returned (.slice (some ⟨b, 0, none⟩) k k) ∧ RowI w' (some ⟨b, 0, none⟩) k (fun _ => x) ∧ Below w.heap.size w w' := by
  go_enter Try.func18, Try.ntmps18
  go_wp2_with fail
  refine (repeat_any w.heap.size k x _ (by omega) (by simp) (by simp [go_sem])).mono ?_
  rintro e w2 ⟨rfl, hR, h2⟩
  have B2 : Below w.heap.size w w2 := Below.trans (by repeat (first | with_reducible exact Below.refl _ _ | with_reducible refine Below.setCell ?_ (by first | omega | (simp; done) | (simp; omega)) _ | with_reducible refine bDrewN ?_ _ | with_reducible refine Below.drew ?_ | with_reducible refine Below.alloc ?_ (by first | omega | (simp; done) | (simp; omega)) _)) (h2.mono (by first | omega | (simp; done) | (simp; omega)))
  have z2 : (w.alloc (.cells #[.int .i64 x] 2)).heap.size ≤ w2.heap.size := h2.size
  have HF : Hid (RowI w2 (some ⟨w.heap.size + 1, 0, none⟩) k (fun _ => x)) := fun j hj => by
    have hb : w.heap.size + 1 < w2.heap.size := by
      rcases Nat.lt_or_ge (w.heap.size + 1) w2.heap.size with z | z
      · exact z
      · exfalso
        have q := hR.cell (j := j) hj
        simp [World.cell?, Array.getElem?_eq_none z] at q
    have q := hR.cell (j := j) hj
    exact ⟨w.heap.size + 1, 0, rfl, hb, by simpa using q⟩
  clear h2 hR
  go_wp2
  go_ret
  exact ⟨w.heap.size + 1, rfl, HF.out, B2⟩
end Go.Proofs.Ytdneembeefflaaa
