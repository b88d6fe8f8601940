/-
What is proved: a list of ticks without hold, put together; whether a number is in a list.
-/
import Derived.Test.YtlbhdlieeilbdaaSeM
import Derived.Test.YtlbhdlieeilbdaaLst
import Derived.Deep.AppendLies
import Derived.Laws.OwnMore
namespace Go.Proofs.Ytlbhdlieeilbdaa
set_option maxRecDepth 40000
open Go.ChangeShapes Go.WideShapes Go.ChangeAt Go.RowKit
set_option linter.unusedVariables false
set_option linter.unusedSimpArgs false

def valsT (S : Nat → Int) : Nat → List Value
  | 0 => []
  | k + 1 => valsT S k ++ [.int .i64 (S k), .bool false]
theorem valsT_len (S : Nat → Int) : ∀ k, (valsT S k).length = k * 2
  | 0 => rfl
  | k + 1 => by
    show (valsT S k ++ _).length = _
    rw [List.length_append, valsT_len S k]
    simp
    omega
theorem valsT_at (S : Nat → Int) : ∀ (k j : Nat), j < k → (valsT S k)[j * 2]? = some (.int .i64 (S j)) ∧ (valsT S k)[j * 2 + 1]? = some (.bool false)
  | 0, j, h => by omega
  | k + 1, j, h => by
    show (valsT S k ++ _)[j * 2]? = _ ∧ (valsT S k ++ _)[j * 2 + 1]? = _
    by_cases e : j = k
    · subst e
      rw [List.getElem?_append_right (by rw [valsT_len]; omega), List.getElem?_append_right (by rw [valsT_len]; omega), valsT_len, Nat.sub_self, show j * 2 + 1 - j * 2 = 1 by omega]
      exact ⟨rfl, rfl⟩
    · rw [List.getElem?_append_left (by rw [valsT_len]; omega), List.getElem?_append_left (by rw [valsT_len]; omega)]
      exact valsT_at S k j (by omega)
theorem valsT_ext {S S' : Nat → Int} : ∀ k, (∀ j, j < k → S j = S' j) → valsT S k = valsT S' k
  | 0, _ => rfl
  | k + 1, h => by
    show valsT S k ++ _ = valsT S' k ++ _
    rw [valsT_ext k (fun j hj => h j (by omega)), h k (by omega)]
def TkO (base : Nat) (W : World) (v : Value) (k : Nat) (S : Nat → Int) : Prop := W.ownsRow base 29 2 v k (valsT S k)
theorem info_Tk : (Try.prog.info? 29).map (fun i => (i.zero, i.size, i.bytes)) = some (some (.agg #[.int .i64 0, .bool false]), 2, 16) := by kernel_rfl
theorem newsTk (W : World) (a b : Value) (t : TypeId) : ∀ j u, [a, b][j]? = some u → (W.alloc (.cells #[a, b] t)).cell? ((⟨W.heap.size, 0, none⟩ : Addr).add j) = some u := World.news_of_block (cs := #[a, b]) (heap_alloc_new W _)
theorem list_Tk {ops : Array Oper} {rest : List Oper} {o : Oper} {a : Act} {Q : Exit → Act → World → Prop} {W : World} {tt : TypeId} {x : Int} (base : Nat) (v : Value) (k : Nat) (S : Nat → Int) (s z : Operand) (hgd : o.guard = none)
    (ho : o.op = .call { callee := .builtin .append, args := #[s, z], argTypes := #[27, 27] }) (hs : a.eval s = v) (hx : a.eval z = .slice (some ⟨W.heap.size, 0, none⟩) 1 1) (hown : TkO base W v k S) (hk : k ≤ 100000) (hb : base ≤ W.heap.size)
    (h : ∀ g cap w', TkO base w' (.slice (some ⟨g, 0, none⟩) (k + 1) cap) (k + 1) (fun j => if j = k then x else S j) → Below base W w' → wpList Try.prog ops Q rest (a.put o.dst (.slice (some ⟨g, 0, none⟩) (k + 1) cap)) w') :
    wpList Try.prog ops Q (o :: rest) a (W.alloc (.cells #[.int .i64 x, .bool false] tt)) := by
  obtain ⟨i0, hi, hz0, hz1, hz2⟩ := info_parts info_Tk
  refine wpList_append_lies _ hgd s z 27 ho base 29 i0 (.agg #[.int .i64 0, .bool false]) 2 16 Try.underlying27 hi hz0 hz1 hz2 rfl (by decide) v k _ hs (hown.alloc _) ⟨W.heap.size, 0, none⟩ 1 1 [.int .i64 x, .bool false] hx rfl (newsTk _ _ _ _) ?_ (by decide) (by unfold maxLen; omega) (by omega) (by simp; omega) _ rfl ?_
  · intro u hu
    simp at hu
    rcases hu with rfl | rfl <;> rfl
  · intro g cap w' q1 q2 _ q3
    have gr := grown_new q2
    refine h g cap w' ?_ (grown_below gr hb (own_block hown))
    show World.ownsRow _ _ _ _ _ _ _
    have e : valsT (fun j => if j = k then x else S j) (k + 1) = valsT S k ++ [.int .i64 x, .bool false] := by
      show valsT _ k ++ [.int .i64 (if k = k then x else S k), .bool false] = _
      rw [if_pos rfl, valsT_ext k (fun j hj => by rw [if_neg (by omega)])]
    rw [e]
    exact q1
theorem TkO.lit (W : World) (S : Nat → Int) : TkO W.heap.size (W.alloc (.cells #[] 29)) (.slice (some ⟨W.heap.size, 0, none⟩) 0 0) 0 S := by
  show World.ownsRow _ _ _ _ _ _ _
  simpa [valsT] using World.ownsRow_lit (base := W.heap.size) (size := 2) (e := 29) W #[] 0 (Nat.le_refl _) (by simp [maxLen]) (by simp)
theorem TkO.row {base : Nat} {W : World} {v : Value} {k : Nat} {S : Nat → Int} (h : TkO base W v k S) : ∃ t cap, v = .slice t k cap ∧ RowTick W t k (fun j => (S j, false)) := by
  rcases h.2 with ⟨e, q⟩ | ⟨g, cap, cur, e, hb, hg, r⟩
  · exact ⟨none, 0, by rw [e, q], fun j hj => by omega⟩
  · subst e
    refine ⟨_, cap, rfl, fun j hj => ⟨g, 0, rfl, (Array.getElem?_eq_some_iff.1 hg).1, ?_, ?_⟩⟩
    · rw [Nat.zero_add, h.cellAt (j * 2) (by omega)]
      exact (valsT_at S k j hj).1
    · rw [Nat.zero_add, h.cellAt (j * 2 + 1) (by omega)]
      exact (valsT_at S k j hj).2
set_option maxHeartbeats 2000000 in
theorem has_any (t : Option Addr) (L : List Int) (c : Nat) (x : Int) (w : World) (hl : (L.length : Int) ≤ 1000) (HR : Hid (RowI w t L.length (fun j => L.getD j 0))) :
    Calls Try.prog 13 #[.slice t L.length c, .int .i64 x] w fun e w' => e = .returned (.bool (decide (x ∈ L))) ∧ w' = w := by
  go_enter Try.func13, Try.ntmps13
  go_wp2_with fail
  go_loopw [5] (fun i wr => ∃ k : Nat, k ≤ L.length ∧ i = .int .i64 (k : Int) ∧ Hid (∀ j, j < k → L.getD j 0 ≠ x) ∧ wr = w) (fun i _ => L.length - (intOf i).toNat)
  case atStart => exact ⟨0, by omega, rfl, fun j hj => by omega, rfl⟩
  case round =>
    obtain ⟨k, hk, rfl, HN, rfl⟩ := hrel
    by_cases hlt : k < L.length
    case neg =>
      obtain rfl : k = L.length := by omega
      have HE : Hid (decide (x ∈ L) = false) := by
        show _ = _
        rw [decide_eq_false_iff_not]
        intro hx
        obtain ⟨j, hj, e⟩ := List.getElem_of_mem hx
        exact HN.out j hj (by rw [List.getD_eq_getElem?_getD, List.getElem?_eq_getElem hj]; exact e)
      go_wp2
      go_ret
      exact ⟨by rw [HE.out]; rfl, rfl⟩
    case pos =>
      obtain ⟨b, o, rfl, hb, hc⟩ := HR.out k hlt
      have k1 : (k : Int) < (L.length : Int) := by omega
      obtain ⟨y, hy⟩ : ∃ y, L.getD k 0 = y := ⟨_, rfl⟩
      have HY : Hid (L.getD k 0 = y) := hy
      simp only [hy] at hc
      clear hy
      by_cases hxy : y = x
      case pos =>
        have HE : Hid (decide (x ∈ L) = true) := by
          show _ = _
          rw [decide_eq_true_iff, ← hxy, ← HY.out, List.getD_eq_getElem?_getD, List.getElem?_eq_getElem hlt]
          exact List.getElem_mem _
        have dx : (y == x) = true := by simpa using hxy
        clear hxy
        go_wp2
        go_ret
        exact ⟨by rw [HE.out]; rfl, rfl⟩
      case neg =>
        have HN2 : Hid (∀ j, j < k + 1 → L.getD j 0 ≠ x) := fun j hj => by
          by_cases e : j = k
          · subst e; rw [HY.out]; exact hxy
          · exact HN.out j (by omega)
        have dx : (y == x) = false := by simpa using hxy
        go_wp2
        go_roundw
        case rel => first | exact ⟨k + 1, by omega, by go_num, HN2, rfl⟩ | exact ⟨k + 1, by omega, by go_num, HN2, trivial⟩
        case measure => simp [intOf]; omega
end Go.Proofs.Ytlbhdlieeilbdaa
