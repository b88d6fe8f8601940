/-
What is proved: slices.Concat of two lists of int64s, each of them nil or not.
-/
import Derived.Test.YtlkegoofpmgcjaaCat
import Derived.Test.YtlkegoofpmgcjaaOwnV
import Derived.Lib.AppendZerosOnto
import Derived.Deep.DeepCutAuto
namespace Go.Proofs.Ytlkegoofpmgcjaa
set_option maxRecDepth 40000
open Go.ChangeShapes Go.WideShapes Go.ChangeAt Go.RowKit
set_option linter.unusedVariables false
set_option linter.unusedSimpArgs false

theorem grow_run (k : Nat) (h0 : 0 < k) (h1 : k ≤ 96) (ty : TypeId) (w : World) : (Builtin.append_ #[27, 3] ty #[.slice none 0 0, .int .i64 (k : Int)]).run Try.prog w = .ok (.slice (some ⟨w.heap.size, 0, none⟩) k (grownCap w k 0 2)) (w.drew.alloc (.cells (Builtin.zeroCells #[.int .i64 0] k ++ Builtin.zeroCells #[.int .i64 0] (grownCap w k 0 2 - k)) 2)) := by
  obtain ⟨i0, hi, hz0, hz1, hz2⟩ := info_parts info_i64
  have hf : Builtin.nextslicecap (0 + k) 0 * i0.bytes ≤ 281474976710656 := by
    rw [hz2]
    have hc : k = 1 ∨ k = 2 ∨ k = 3 ∨ k = 4 ∨ k = 5 ∨ k = 6 ∨ k = 7 ∨ k = 8 ∨ k = 9 ∨ k = 10 ∨ k = 11 ∨ k = 12 ∨ k = 13 ∨ k = 14 ∨ k = 15 ∨ k = 16 ∨ k = 17 ∨ k = 18 ∨ k = 19 ∨ k = 20 ∨ k = 21 ∨ k = 22 ∨ k = 23 ∨ k = 24 ∨ k = 25 ∨ k = 26 ∨ k = 27 ∨ k = 28 ∨ k = 29 ∨ k = 30 ∨ k = 31 ∨ k = 32 ∨ k = 33 ∨ k = 34 ∨ k = 35 ∨ k = 36 ∨ k = 37 ∨ k = 38 ∨ k = 39 ∨ k = 40 ∨ k = 41 ∨ k = 42 ∨ k = 43 ∨ k = 44 ∨ k = 45 ∨ k = 46 ∨ k = 47 ∨ k = 48 ∨ k = 49 ∨ k = 50 ∨ k = 51 ∨ k = 52 ∨ k = 53 ∨ k = 54 ∨ k = 55 ∨ k = 56 ∨ k = 57 ∨ k = 58 ∨ k = 59 ∨ k = 60 ∨ k = 61 ∨ k = 62 ∨ k = 63 ∨ k = 64 ∨ k = 65 ∨ k = 66 ∨ k = 67 ∨ k = 68 ∨ k = 69 ∨ k = 70 ∨ k = 71 ∨ k = 72 ∨ k = 73 ∨ k = 74 ∨ k = 75 ∨ k = 76 ∨ k = 77 ∨ k = 78 ∨ k = 79 ∨ k = 80 ∨ k = 81 ∨ k = 82 ∨ k = 83 ∨ k = 84 ∨ k = 85 ∨ k = 86 ∨ k = 87 ∨ k = 88 ∨ k = 89 ∨ k = 90 ∨ k = 91 ∨ k = 92 ∨ k = 93 ∨ k = 94 ∨ k = 95 ∨ k = 96 := by omega
    rcases hc with rfl | rfl | rfl | rfl | rfl | rfl | rfl | rfl | rfl | rfl | rfl | rfl | rfl | rfl | rfl | rfl | rfl | rfl | rfl | rfl | rfl | rfl | rfl | rfl | rfl | rfl | rfl | rfl | rfl | rfl | rfl | rfl | rfl | rfl | rfl | rfl | rfl | rfl | rfl | rfl | rfl | rfl | rfl | rfl | rfl | rfl | rfl | rfl | rfl | rfl | rfl | rfl | rfl | rfl | rfl | rfl | rfl | rfl | rfl | rfl | rfl | rfl | rfl | rfl | rfl | rfl | rfl | rfl | rfl | rfl | rfl | rfl | rfl | rfl | rfl | rfl | rfl | rfl | rfl | rfl | rfl | rfl | rfl | rfl | rfl | rfl | rfl | rfl | rfl | rfl | rfl | rfl | rfl | rfl | rfl | rfl <;> decide
  have := Lib.run_append_grow_zeros (P := Try.prog) w 27 3 ty 2 i0 (.int .i64 0) .i64 .i64 Try.underlying27 Try.underlying3 hi hz0 none 0 0 [] (run_firstCells_none _ _ _ _ _) k h0 (by rw [hz1]; decide) (by omega) (by omega) (by rw [hz2]; omega) hf
  have e : (Value.int IntKind.i64 0).cells = #[.int .i64 0] := rfl
  rw [e] at this
  simpa using this
theorem list_grow {ops : Array Oper} {rest : List Oper} {o : Oper} {a : Act} {Q : Exit → Act → World → Prop} {W : World} (s z : Operand) (k : Nat) (v : Value) (w' : World) (hgd : o.guard = none)
    (ho : o.op = .call { callee := .builtin .append, args := #[s, z], argTypes := #[27, 3] }) (hs : a.eval s = .slice none 0 0) (hx : a.eval z = .int .i64 (k : Int)) (hr : (Builtin.append_ #[27, 3] o.type #[.slice none 0 0, .int .i64 (k : Int)]).run Try.prog W = .ok v w')
    (h : wpList Try.prog ops Q rest (a.put o.dst v) w') : wpList Try.prog ops Q (o :: rest) a W := by
  refine wpList_plain hgd fun K hK => ?_
  unfold Oper.wp execOp
  simp only [ho, resolve, invoke, builtin, Sem.run_bind, Sem.run_pure, Result.andThen_ok, List.map_toArray, List.map_cons, List.map_nil, hs, hx, hr]
  exact hK _ _ h
theorem zc_size (k : Nat) : (Builtin.zeroCells #[Value.int .i64 0] k).size = k := by simp [Builtin.zeroCells]
theorem grow_owns (w : World) (k : Nat) (h1 : k ≤ 96) : (w.drew.alloc (.cells (Builtin.zeroCells #[.int .i64 0] k ++ Builtin.zeroCells #[.int .i64 0] (grownCap w k 0 2 - k)) 2)).ownsRow w.heap.size 2 1 (.slice (some ⟨w.heap.size, 0, none⟩) 0 (grownCap w k 0 2)) 0 [] := by
  have hge := grownCap_ge w k 0 2
  have hle := grownCap_le_maxLen w k 0 2 (by unfold maxLen; omega)
  refine ⟨rfl, .inr ⟨w.heap.size, grownCap w k 0 2, _, rfl, Nat.le_refl _, heap_alloc_new w.drew _, by omega, hle, ?_, by simp⟩⟩
  rw [Array.size_append, zc_size, zc_size]
  omega
set_option maxRecDepth 20000 in
set_option maxHeartbeats 2000000 in
theorem growNil_any (k : Nat) (h0 : 0 < k) (h1 : k ≤ 96) (w : World) : Calls Try.prog 67 #[.slice none 0 0, .int .i64 (k : Int)] w fun e w' => ∃ g cap, e = .returned (.slice (some ⟨g, 0, none⟩) 0 cap) ∧ w'.ownsRow w.heap.size 2 1 (.slice (some ⟨g, 0, none⟩) 0 cap) 0 [] ∧ Below w.heap.size w w' := by
  have hr := fun ty => grow_run k h0 h1 ty w
  have HO : Hid ((w.drew.alloc (.cells (Builtin.zeroCells #[.int .i64 0] k ++ Builtin.zeroCells #[.int .i64 0] (grownCap w k 0 2 - k)) 2)).ownsRow w.heap.size 2 1 (.slice (some ⟨w.heap.size, 0, none⟩) 0 (grownCap w k 0 2)) 0 []) := grow_owns w k h1
  have k1 : (0 : Int) < (k : Int) := by omega
  have k2 : (k : Int) ≤ 96 := by omega
  have hge := grownCap_ge w k 0 2
  obtain ⟨cp, hcp⟩ : ∃ cp, grownCap w k 0 2 = cp := ⟨_, rfl⟩
  rw [hcp] at hr HO hge
  clear hcp
  obtain ⟨cs, hcs⟩ : ∃ cs, Builtin.zeroCells #[.int .i64 0] k ++ Builtin.zeroCells #[.int .i64 0] (cp - k) = cs := ⟨_, rfl⟩
  rw [hcs] at hr HO
  clear hcs
  have c0 : (0 : Int) ≤ (cp : Int) := by omega
  go_enter Try.func67, Try.ntmps67
  go_wp2_with (first | (at_builtin; refine list_grow _ _ k _ _ (by rfl) (by rfl) (by rfl) (by rfl) (hr _) ?_))
  go_ret
  exact ⟨_, _, rfl, HO.out, (by repeat (first | with_reducible exact Below.refl _ _ | with_reducible refine Below.setCell ?_ (by first | omega | (simp; done) | (simp; omega)) _ | with_reducible refine bDrewN ?_ _ | with_reducible refine Below.drew ?_ | with_reducible refine Below.alloc ?_ (by first | omega | (simp; done) | (simp; omega)) _))⟩
abbrev encL (l : List Int) : List Value := l.map (Value.int .i64)
/-- A list in memory, nil where it is empty. -/
def LstV (W : World) (t : Option Addr) (c : Nat) (L : List Int) : Prop := (L = [] ∧ t = none ∧ c = 0) ∨ (L ≠ [] ∧ ∃ g, t = some ⟨g, 0, none⟩ ∧ g < W.heap.size ∧ ∀ i, i < L.length → W.cell? ⟨g, i, none⟩ = some (.int .i64 (L.getD i 0)))
theorem LstV.below {W W' : World} {t : Option Addr} {c : Nat} {L : List Int} (h : LstV W t c L) (hb : Below W.heap.size W W') : LstV W' t c L := by
  rcases h with h | ⟨h0, g, e, hg, hc⟩
  · exact .inl h
  · exact .inr ⟨h0, g, e, Nat.lt_of_lt_of_le hg hb.size, fun i hi => (hb.cell (p := ⟨g, i, none⟩) hg).trans (hc i hi)⟩
theorem nilapp_run (b : Option Addr) (k c : Nat) (h : k ≤ c) (ty : TypeId) (w : World) : (Builtin.append_ #[27, 27] ty #[.slice b k c, .slice none 0 0]).run Try.prog w = .ok (.slice b k c) w := by
  have hu := Try.underlying27
  have hs : (sizeOf 2).run Try.prog w = .ok 1 w := by kernel_rfl
  cases b <;> simp [Builtin.append_, run_underlying hu, hs, Builtin.lenOf, Builtin.firstCells, h, storeCells, go_sem]
theorem list_nilapp {ops : Array Oper} {rest : List Oper} {o : Oper} {a : Act} {Q : Exit → Act → World → Prop} {W : World} (b : Option Addr) (k c : Nat) (hk : k ≤ c) (s z : Operand) (hgd : o.guard = none)
    (ho : o.op = .call { callee := .builtin .append, args := #[s, z], argTypes := #[27, 27] }) (hs : a.eval s = .slice b k c) (hx : a.eval z = .slice none 0 0)
    (h : wpList Try.prog ops Q rest (a.put o.dst (.slice b k c)) W) : wpList Try.prog ops Q (o :: rest) a W := by
  refine wpList_plain hgd fun K hK => ?_
  unfold Oper.wp execOp
  simp only [ho, resolve, invoke, builtin, Sem.run_bind, Sem.run_pure, Result.andThen_ok, List.map_toArray, List.map_cons, List.map_nil, hs, hx, nilapp_run b k c hk]
  exact hK _ _ h
theorem catL {ops : Array Oper} {rest : List Oper} {o : Oper} {a : Act} {Q : Exit → Act → World → Prop} {W : World} (base : Nat) (v : Value) (zs ys : List Int) (s z : Operand) (g n c : Nat) (hgd : o.guard = none)
    (ho : o.op = .call { callee := .builtin .append, args := #[s, z], argTypes := #[27, 27] }) (hs : a.eval s = v) (hn : n = ys.length) (hx : a.eval z = .slice (some ⟨g, 0, none⟩) n c) (hown : W.ownsRow base 2 1 v zs.length (encL zs)) (hk : zs.length ≤ 1000) (hm : ys.length ≤ 1000) (hb : base ≤ W.heap.size) (R : ∀ i, i < ys.length → W.cell? ⟨g, i, none⟩ = some (.int .i64 (ys.getD i 0)))
    (h : ∀ v' w', w'.ownsRow base 2 1 v' (zs ++ ys).length (encL (zs ++ ys)) → Below base W w' → wpList Try.prog ops Q rest (a.put o.dst v') w') :
    wpList Try.prog ops Q (o :: rest) a W := by
  obtain ⟨i0, hi, hz0, hz1, hz2⟩ := info_parts info_i64
  refine wpList_append_own _ hgd s z 27 ho base 2 i0 (.int .i64 0) 1 8 Try.underlying27 hi hz0 hz1 hz2 rfl (by decide) v zs.length (encL zs) hs hown ⟨g, 0, none⟩ n c (encL ys) hx (by simp [hn]) ?_ ?_ (by unfold maxLen; omega) (by omega) hb ?_
  · intro j u hu
    simp only [encL, List.getElem?_map, Option.map_eq_some_iff] at hu
    obtain ⟨q, hq, rfl⟩ := hu
    have hj : j < ys.length := (List.getElem?_eq_some_iff.1 hq).1
    have := R j hj
    rw [List.getD_eq_getElem?_getD, hq] at this
    have ea : (⟨g, 0, none⟩ : Addr).add j = ⟨g, j, none⟩ := by
      by_cases z : j = 0
      · subst z; simp [Addr.add]
      · simp [Addr.add, z]
    rw [ea]
    simpa using this
  · intro u hu
    simp only [encL, List.mem_map] at hu
    obtain ⟨j, _, rfl⟩ := hu
    rfl
  · intro v' w' h2 h3 _
    refine h v' w' ?_ (grown_below h3 hb (own_block hown))
    have e : encL (zs ++ ys) = encL zs ++ encL ys := List.map_append
    rw [e, List.length_append, ← hn]
    exact h2
def catP (L : Nat → List Int) : Nat → List Int
  | 0 => []
  | j + 1 => catP L j ++ L j
theorem catP_le {L : Nat → List Int} {M : Nat} (h : ∀ j, j < 2 → (L j).length ≤ M) : ∀ j, j ≤ 2 → (catP L j).length ≤ j * M
  | 0, _ => by simp [catP]
  | j + 1, hj => by
    have := catP_le h j (by omega)
    have := h j (by omega)
    simp only [catP, List.length_append]
    rw [Nat.add_mul]
    omega
theorem catP_up {L : Nat → List Int} {j : Nat} (hj : j ≤ 2) : (catP L j).length ≤ (catP L 2).length := by
  rcases (show j = 0 ∨ j = 1 ∨ j = 2 by omega) with rfl | rfl | rfl
  · simp [catP]
  · simp [catP]
  · exact Nat.le_refl _
/-- Two lists whose places lie in a block. -/
def TwoL (w : World) (p : Nat) (S : Nat → Option Addr) (C : Nat → Nat) (L : Nat → List Int) : Prop := p < w.heap.size ∧ ∀ j, j < 2 → w.cell? ⟨p, j, none⟩ = some (.slice (S j) (L j).length (C j)) ∧ LstV w (S j) (C j) (L j)
theorem TwoL.below {w w' : World} {p : Nat} {S : Nat → Option Addr} {C : Nat → Nat} {L : Nat → List Int} (h : TwoL w p S C L) (hb : Below w.heap.size w w') : TwoL w' p S C L :=
  ⟨Nat.lt_of_lt_of_le h.1 hb.size, fun j hj => ⟨(hb.cell (p := ⟨p, j, none⟩) h.1).trans (h.2 j hj).1, (h.2 j hj).2.below hb⟩⟩
theorem growNil_zero (w : World) : Calls Try.prog 67 #[.slice none 0 0, .int .i64 0] w fun e w' => e = .returned (.slice none 0 0) ∧ w' = w := by
  go_enter Try.func67, Try.ntmps67
  go_wp2
  go_ret
  exact ⟨rfl, rfl⟩
/-- What is put together: nil where nothing is in it, else in memory of its own. -/
def OwnN (base : Nat) (W : World) (v : Value) (L : List Int) : Prop := (L = [] ∧ v = .slice none 0 0) ∨ (L ≠ [] ∧ W.ownsRow base 2 1 v L.length (encL L))
set_option maxRecDepth 20000 in
set_option maxHeartbeats 4000000 in
theorem concat2_any (p : Nat) (S : Nat → Option Addr) (C : Nat → Nat) (L : Nat → List Int) (w : World) (hL : ∀ j, j < 2 → (L j).length ≤ 48) (HT : Hid (TwoL w p S C L)) :
    Calls Try.prog 58 #[.slice (some ⟨p, 0, none⟩) 2 2] w fun e w' => ∃ v, e = .returned v ∧ OwnN w.heap.size w' v (catP L 2) ∧ Below w.heap.size w w' := by
  have HL : Hid (∀ j, j ≤ 2 → (catP L j).length ≤ j * 48) := catP_le hL
  have HN : Hid (∀ j, j < 2 → (L j).length ≤ 48) := hL
  clear hL
  go_enter Try.func58, Try.ntmps58
  go_wp2_with fail
  go_loopw [3, 11] (fun v i wr => ∃ j : Nat, j ≤ 2 ∧ i = .int .i64 (j : Int) ∧ v = .int .i64 ((catP L j).length : Int) ∧ wr = w) (fun _ i _ => 2 - (intOf i).toNat)
  case atStart => exact ⟨0, by omega, rfl, rfl, rfl⟩
  case round =>
    obtain ⟨j, hj, rfl, rfl, rfl⟩ := hrel
    by_cases hlt : j < 2
    · obtain ⟨zp, hc⟩ := HT.out
      obtain ⟨cj, -⟩ := hc j hlt
      have j1 : (j : Int) < 2 := by omega
      have l1 := HL.out j hj
      have l2 := HN.out j hlt
      have HE : Hid ((catP L (j + 1)).length = (catP L j).length + (L j).length) := by show _ = _; simp [catP]
      obtain ⟨A, hA⟩ : ∃ A, (catP L j).length = A := ⟨_, rfl⟩
      obtain ⟨B, hB⟩ : ∃ B, (L j).length = B := ⟨_, rfl⟩
      rw [hA] at l1 HE ⊢
      rw [hB] at l2 HE cj
      clear hA hB hc
      have wab : IntKind.i64.wrap ((A : Int) + (B : Int)) = (A : Int) + (B : Int) := by rw [IntKind.wrap_i64]; omega
      have nab : decide ((A : Int) + (B : Int) < 0) = false := decide_eq_false (by omega)
      go_wp2
      go_roundw
      case rel => first | exact ⟨j + 1, by omega, by go_num, by rw [HE.out]; simp, rfl⟩ | exact ⟨j + 1, by omega, by go_num, by rw [HE.out]; simp, trivial⟩
      case measure => simp [intOf]; omega
    · obtain rfl : j = 2 := by omega
      rename World => w0
      have l1 := HL.out 2 (by omega)
      obtain ⟨A, hA⟩ : ∃ A, (catP L 2).length = A := ⟨_, rfl⟩
      have HA : Hid ((catP L 2).length = A) := hA
      rw [hA] at l1 ⊢
      clear hA
      by_cases hz : A = 0
      case pos =>
        subst hz
        have hnil : ∀ j, j < 2 → L j = [] := fun j hj => by
          have := HA.out
          have h1 := catP_up (L := L) (j := j + 1) (by omega)
          simp only [catP, List.length_append] at h1 this
          exact List.eq_nil_of_length_eq_zero (by rcases (show j = 0 ∨ j = 1 by omega) with rfl | rfl <;> omega)
        have HNIL : Hid (∀ j, j < 2 → L j = []) := hnil
        have HE : Hid (catP L 2 = []) := List.eq_nil_of_length_eq_zero HA.out
        clear hnil HA
        go_wp2_with fail
        refine (growNil_zero _).mono ?_
        rintro e w2 ⟨rfl, rfl⟩
        rename World => w0
        go_wp2_with fail
        go_loopw [6, 27] (fun v i wr => ∃ j : Nat, j ≤ 2 ∧ i = .int .i64 (j : Int) ∧ v = .slice none 0 0 ∧ wr = w0) (fun _ i _ => 2 - (intOf i).toNat)
        case atStart => exact ⟨0, by omega, rfl, rfl, rfl⟩
        case round =>
          obtain ⟨j, hj, rfl, rfl, rfl⟩ := hrel
          by_cases hlt : j < 2
          · obtain ⟨zp, hc⟩ := HT.out
            obtain ⟨cj, hv⟩ := hc j hlt
            have eL := HNIL.out j hlt
            rcases hv with ⟨_, eS, eC⟩ | ⟨h0, _⟩
            · rw [eL, eS, eC] at cj
              have j1 : (j : Int) < 2 := by omega
              simp only [List.length_nil] at cj
              clear hc eL eS eC
              go_wp2_with (first | (at_builtin; refine list_nilapp none 0 0 (by omega) _ _ (by rfl) (by rfl) (by rfl) (by rfl) ?_))
              go_roundw
              case rel => first | exact ⟨j + 1, by omega, by go_num, rfl, rfl⟩ | exact ⟨j + 1, by omega, by go_num, trivial, trivial⟩ | exact ⟨j + 1, by omega, by go_num, rfl, trivial⟩
              case measure => simp [intOf]; omega
            · exact (h0 eL).elim
          · obtain rfl : j = 2 := by omega
            go_wp2
            go_ret
            exact ⟨_, rfl, .inl ⟨HE.out, rfl⟩, Below.refl _ _⟩
      case neg =>
        have HNE : Hid (catP L 2 ≠ []) := fun e => hz (by rw [← HA.out, e]; rfl)
        go_wp2_with fail
        refine (growNil_any A (by omega) (by omega) _).mono ?_
        rintro e w2 ⟨g, cap, rfl, ow, h2⟩
        have HOW : Hid (w2.ownsRow w0.heap.size 2 1 (.slice (some ⟨g, 0, none⟩) 0 cap) (catP L 0).length (encL (catP L 0))) := ow
        have HB2 : Hid (Below w0.heap.size w0 w2) := h2
        clear ow h2
        go_wp2_with fail
        go_loopw [6, 27] (fun v i wr => ∃ j : Nat, j ≤ 2 ∧ i = .int .i64 (j : Int) ∧ Hid (wr.ownsRow w0.heap.size 2 1 v (catP L j).length (encL (catP L j))) ∧ Hid (Below w0.heap.size w0 wr)) (fun _ i _ => 2 - (intOf i).toNat)
        case atStart => exact ⟨0, by omega, rfl, HOW, HB2⟩
        case round =>
          clear HOW HB2
          obtain ⟨j, hj, rfl, HOW, HB⟩ := hrel
          have HTr : Hid (TwoL wr p S C L) := HT.out.below HB.out
          by_cases hlt : j < 2
          · obtain ⟨zp, hc⟩ := HTr.out
            obtain ⟨cj, hv⟩ := hc j hlt
            have l1 := HL.out j hj
            have l2 := HN.out j hlt
            have j1 : (j : Int) < 2 := by omega
            have zB : w0.heap.size ≤ wr.heap.size := HB.out.size
            rcases hv with ⟨eL, eS, eC⟩ | ⟨h0, g2, eS, hg2, hcs⟩
            · rw [eL, eS, eC] at cj
              simp only [List.length_nil] at cj
              obtain ⟨t6, c6, e6, hk6⟩ : ∃ t c, u6 = .slice t (catP L j).length c ∧ (catP L j).length ≤ c := by
                rcases HOW.out.2 with ⟨e, q⟩ | ⟨g', cap', cur, e, _, _, h3, _⟩
                · exact ⟨none, 0, by rw [e, q], by omega⟩
                · exact ⟨_, cap', e, h3⟩
              subst e6
              have HO9 : Hid (wr.ownsRow w0.heap.size 2 1 (.slice t6 (catP L j).length c6) (catP L (j + 1)).length (encL (catP L (j + 1)))) := by
                show World.ownsRow _ _ _ _ _ _ _
                rw [show catP L (j + 1) = catP L j by simp [catP, eL]]
                exact HOW.out
              clear hc eL eS eC
              go_wp2_with (first | (at_builtin; refine list_nilapp t6 _ c6 hk6 _ _ (by rfl) (by rfl) (by rfl) (by rfl) ?_))
              go_roundw
              case rel => exact ⟨j + 1, by omega, by go_num, HO9, HB⟩
              case measure => simp [intOf]; omega
            · rw [eS] at cj
              have RJ : Hid (∀ i, i < (L j).length → wr.cell? ⟨g2, i, none⟩ = some (.int .i64 ((L j).getD i 0))) := hcs
              clear hc hcs eS h0
              go_wp2_with (first | (at_builtin; refine catL w0.heap.size _ (catP L j) (L j) _ _ g2 _ (C j) (by rfl) (by rfl) (by rfl) rfl (by rfl) HOW.out (by omega) (by omega) zB RJ.out ?_; intro v9 w9 o9 b9))
              have HN9 : Hid (w9.ownsRow w0.heap.size 2 1 v9 (catP L (j + 1)).length (encL (catP L (j + 1)))) := o9
              have HB9 : Hid (Below w0.heap.size w0 w9) := HB.out.trans b9
              clear o9 b9
              go_roundw
              case rel => exact ⟨j + 1, by omega, by go_num, HN9, HB9⟩
              case measure => simp [intOf]; omega
          · obtain rfl : j = 2 := by omega
            have HF := HOW.out
            have BF := HB.out
            go_wp2
            go_ret
            exact ⟨_, rfl, .inr ⟨HNE.out, HF⟩, BF⟩
end Go.Proofs.Ytlkegoofpmgcjaa
