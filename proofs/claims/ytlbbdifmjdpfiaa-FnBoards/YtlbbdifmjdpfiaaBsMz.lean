/-
What is proved: alarms in a block of their own, one of them turned.
-/
import Derived.Test.YtlbbdifmjdpfiaaBsNz
import Derived.Test.YtlbbdifmjdpfiaaZdA
namespace Go.Proofs.Ytlbbdifmjdpfiaa
set_option maxRecDepth 40000
open Go.ChangeShapes Go.WideShapes Go.ChangeAt Go.RowKit
set_option linter.unusedVariables false
set_option linter.unusedSimpArgs false

/-- The alarms V in the block b. -/
def AlM (b : Nat) (w : World) (n : Nat) (V : Nat → Int × Int × Int × Bool × Int) : Prop := b < w.heap.size ∧ (∀ o, w.frozen? ⟨b, o, none⟩ = false) ∧ ∀ j, j < n → w.cell? ⟨b, j * 5, none⟩ = some (.int .i64 (V j).1) ∧ w.cell? ⟨b, j * 5 + 1, none⟩ = some (.int .i64 (V j).2.1) ∧ w.cell? ⟨b, j * 5 + 2, none⟩ = some (.int .i64 (V j).2.2.1) ∧ w.cell? ⟨b, j * 5 + 3, none⟩ = some (.bool (V j).2.2.2.1) ∧ w.cell? ⟨b, j * 5 + 4, none⟩ = some (.int .i64 (V j).2.2.2.2)
theorem AlM.row {b n : Nat} {w : World} {V : Nat → Int × Int × Int × Bool × Int} (h : AlM b w n V) : RowAlarm w (some ⟨b, 0, none⟩) n V := fun j hj => by
  obtain ⟨c0, c1, c2, c3, c4⟩ := h.2.2 j hj
  exact ⟨b, 0, rfl, h.1, by simpa using c0, by simpa using c1, by simpa using c2, by simpa using c3, by simpa using c4⟩
theorem AlM.keep {b n : Nat} {w w' : World} {V : Nat → Int × Int × Int × Bool × Int} (h : AlM b w n V) (hs : w.heap.size ≤ w'.heap.size) (hb : w'.heap[b]? = w.heap[b]?) : AlM b w' n V := by
  refine ⟨Nat.lt_of_lt_of_le h.1 hs, fun o => (World.frozen?_of_block (w := w) (a := ⟨b, o, none⟩) hb).trans (h.2.1 o), fun j hj => ?_⟩
  obtain ⟨c0, c1, c2, c3, c4⟩ := h.2.2 j hj
  exact ⟨(World.cell?_of_block (w := w) (a := ⟨b, j * 5, none⟩) hb).trans c0, (World.cell?_of_block (w := w) (a := ⟨b, j * 5 + 1, none⟩) hb).trans c1, (World.cell?_of_block (w := w) (a := ⟨b, j * 5 + 2, none⟩) hb).trans c2, (World.cell?_of_block (w := w) (a := ⟨b, j * 5 + 3, none⟩) hb).trans c3, (World.cell?_of_block (w := w) (a := ⟨b, j * 5 + 4, none⟩) hb).trans c4⟩
theorem AlM.below {b n : Nat} {w w' : World} {V : Nat → Int × Int × Int × Bool × Int} (h : AlM b w n V) (hb : Below w.heap.size w w') : AlM b w' n V := h.keep hb.size (hb.block b h.1)
theorem AlM.beside {b n r : Nat} {w w' : World} {V : Nat → Int × Int × Int × Bool × Int} (h : AlM b w n V) (hb : Beside r w w') (hr : b ≠ r) : AlM b w' n V := h.keep hb.2.2.2.1 (hb.2.2.2.2 b h.1 hr)
theorem AlM.congr {b n : Nat} {w : World} {V U : Nat → Int × Int × Int × Bool × Int} (h : AlM b w n V) (e : ∀ j, j < n → V j = U j) : AlM b w n U := ⟨h.1, h.2.1, fun j hj => by rw [← e j hj]; exact h.2.2 j hj⟩
theorem AlM.own {b n : Nat} {w : World} {V : Nat → Int × Int × Int × Bool × Int} (h : AlM b w n V) : OwnAlarm b w (some ⟨b, 0, none⟩) n V := fun j hj => ⟨b, rfl, Nat.le_refl _, h.1, h.2.1, h.2.2 j hj⟩
theorem AlM.f2 {b n j : Nat} {w : World} {V : Nat → Int × Int × Int × Bool × Int} (h : AlM b w n V) (hj : j < n) (q : Int) : AlM b (w.setCell ⟨b, j * 5 + 2, none⟩ (.int .i64 q)) n (upd V j ((V j).1, (V j).2.1, q, (V j).2.2.2.1, (V j).2.2.2.2)) := by
  refine ⟨by simpa using h.1, fun o => by simp [go_sem, h.2.1], fun k hk => ?_⟩
  obtain ⟨c0, c1, c2, c3, c4⟩ := h.2.2 k hk
  by_cases e : k = j
  · subst e
    rw [upd_at]
    refine ⟨?_, ?_, ?_, ?_, ?_⟩
    · rw [cell_apartAlarm (by omega)]; exact c0
    · rw [cell_apartAlarm (by omega)]; exact c1
    · exact World.cell?_setCell_same' _ _ _ (by rw [c2]; rfl)
    · rw [cell_apartAlarm (by omega)]; exact c3
    · rw [cell_apartAlarm (by omega)]; exact c4
  · rw [upd_off V _ e]
    refine ⟨?_, ?_, ?_, ?_, ?_⟩
    · rw [cell_apartAlarm (by omega)]; exact c0
    · rw [cell_apartAlarm (by omega)]; exact c1
    · rw [cell_apartAlarm (by omega)]; exact c2
    · rw [cell_apartAlarm (by omega)]; exact c3
    · rw [cell_apartAlarm (by omega)]; exact c4
theorem AlM.f3 {b n j : Nat} {w : World} {V : Nat → Int × Int × Int × Bool × Int} (h : AlM b w n V) (hj : j < n) (q : Bool) : AlM b (w.setCell ⟨b, j * 5 + 3, none⟩ (.bool q)) n (upd V j ((V j).1, (V j).2.1, (V j).2.2.1, q, (V j).2.2.2.2)) := by
  refine ⟨by simpa using h.1, fun o => by simp [go_sem, h.2.1], fun k hk => ?_⟩
  obtain ⟨c0, c1, c2, c3, c4⟩ := h.2.2 k hk
  by_cases e : k = j
  · subst e
    rw [upd_at]
    refine ⟨?_, ?_, ?_, ?_, ?_⟩
    · rw [cell_apartAlarm (by omega)]; exact c0
    · rw [cell_apartAlarm (by omega)]; exact c1
    · rw [cell_apartAlarm (by omega)]; exact c2
    · exact World.cell?_setCell_same' _ _ _ (by rw [c3]; rfl)
    · rw [cell_apartAlarm (by omega)]; exact c4
  · rw [upd_off V _ e]
    refine ⟨?_, ?_, ?_, ?_, ?_⟩
    · rw [cell_apartAlarm (by omega)]; exact c0
    · rw [cell_apartAlarm (by omega)]; exact c1
    · rw [cell_apartAlarm (by omega)]; exact c2
    · rw [cell_apartAlarm (by omega)]; exact c3
    · rw [cell_apartAlarm (by omega)]; exact c4
theorem AlM.f4 {b n j : Nat} {w : World} {V : Nat → Int × Int × Int × Bool × Int} (h : AlM b w n V) (hj : j < n) (q : Int) : AlM b (w.setCell ⟨b, j * 5 + 4, none⟩ (.int .i64 q)) n (upd V j ((V j).1, (V j).2.1, (V j).2.2.1, (V j).2.2.2.1, q)) := by
  refine ⟨by simpa using h.1, fun o => by simp [go_sem, h.2.1], fun k hk => ?_⟩
  obtain ⟨c0, c1, c2, c3, c4⟩ := h.2.2 k hk
  by_cases e : k = j
  · subst e
    rw [upd_at]
    refine ⟨?_, ?_, ?_, ?_, ?_⟩
    · rw [cell_apartAlarm (by omega)]; exact c0
    · rw [cell_apartAlarm (by omega)]; exact c1
    · rw [cell_apartAlarm (by omega)]; exact c2
    · rw [cell_apartAlarm (by omega)]; exact c3
    · exact World.cell?_setCell_same' _ _ _ (by rw [c4]; rfl)
  · rw [upd_off V _ e]
    refine ⟨?_, ?_, ?_, ?_, ?_⟩
    · rw [cell_apartAlarm (by omega)]; exact c0
    · rw [cell_apartAlarm (by omega)]; exact c1
    · rw [cell_apartAlarm (by omega)]; exact c2
    · rw [cell_apartAlarm (by omega)]; exact c3
    · rw [cell_apartAlarm (by omega)]; exact c4
theorem AlM.on {b n j : Nat} {w : World} {V : Nat → Int × Int × Int × Bool × Int} (h : AlM b w n V) (hj : j < n) (G O T : Int) (F : Bool) (U : Int) : AlM b (((((w.setCell ⟨b, j * 5, none⟩ (.int .i64 G)).setCell ⟨b, j * 5 + 1, none⟩ (.int .i64 O)).setCell ⟨b, j * 5 + 2, none⟩ (.int .i64 T)).setCell ⟨b, j * 5 + 3, none⟩ (.bool F)).setCell ⟨b, j * 5 + 4, none⟩ (.int .i64 U)) n (upd V j (G, O, T, F, U)) := by
  refine ⟨by simpa using h.1, fun o => by simp [go_sem, h.2.1], fun k hk => ?_⟩
  obtain ⟨c0, c1, c2, c3, c4⟩ := h.2.2 k hk
  by_cases e : k = j
  · subst e
    rw [upd_at]
    refine ⟨?_, ?_, ?_, ?_, ?_⟩
    all_goals simp [go_sem, c0, c1, c2, c3, c4]
  · rw [upd_off V _ e]
    refine ⟨?_, ?_, ?_, ?_, ?_⟩
    · rw [cell_apartAlarm (by omega), cell_apartAlarm (by omega), cell_apartAlarm (by omega), cell_apartAlarm (by omega), cell_apartAlarm (by omega)]; exact c0
    · rw [cell_apartAlarm (by omega), cell_apartAlarm (by omega), cell_apartAlarm (by omega), cell_apartAlarm (by omega), cell_apartAlarm (by omega)]; exact c1
    · rw [cell_apartAlarm (by omega), cell_apartAlarm (by omega), cell_apartAlarm (by omega), cell_apartAlarm (by omega), cell_apartAlarm (by omega)]; exact c2
    · rw [cell_apartAlarm (by omega), cell_apartAlarm (by omega), cell_apartAlarm (by omega), cell_apartAlarm (by omega), cell_apartAlarm (by omega)]; exact c3
    · rw [cell_apartAlarm (by omega), cell_apartAlarm (by omega), cell_apartAlarm (by omega), cell_apartAlarm (by omega), cell_apartAlarm (by omega)]; exact c4
theorem set5_beside {w : World} {b : Nat} {o0 o1 o2 o3 o4 : Nat} {v0 v1 v2 v3 v4 : Value} : Beside b w (((((w.setCell ⟨b, o0, none⟩ v0).setCell ⟨b, o1, none⟩ v1).setCell ⟨b, o2, none⟩ v2).setCell ⟨b, o3, none⟩ v3).setCell ⟨b, o4, none⟩ v4) :=
  ((((Beside.setCell b w o0 v0).trans (Beside.setCell b _ o1 v1)).trans (Beside.setCell b _ o2 v2)).trans (Beside.setCell b _ o3 v3)).trans (Beside.setCell b _ o4 v4)
end Go.Proofs.Ytlbbdifmjdpfiaa
