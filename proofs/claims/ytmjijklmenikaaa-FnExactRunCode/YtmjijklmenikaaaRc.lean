/-
What is proved: compiled code run over rows, in numbers; the values at some places.
-/
import Derived.Test.YtmjijklmenikaaaExP
import Derived.Test.YtmjijklmenikaaaAllIn
import Derived.Test.YtmjijklmenikaaaLT
import Derived.Deep.RegionHeld3
import Derived.Deep.DeepCutAuto
namespace Go.Proofs.Ytmjijklmenikaaa
set_option maxRecDepth 40000
open Go.ChangeShapes Go.WideShapes Go.ChangeAt Go.RowKit
set_option linter.unusedVariables false
set_option linter.unusedSimpArgs false

def rcN (n : Nat) (V : Nat → Int) (I : Nat → Nat → Int) : Nat → Nat → Int
  | 0 => fun _ => 0
  | k + 1 => (exK V (rcN n V I k) (I k) n).N
def rcT (n : Nat) (V : Nat → Int) (a : Nat) (J : Nat → Nat) (I : Nat → Nat → Int) : Nat → Bool
  | 0 => true
  | k + 1 => rcT n V a J I k && exB n V a (rcN n V I k) (J k) (I k)
def rcB (n : Nat) (V : Nat → Int) (C : Int) (no : Nat) (Os : Nat → Int) (nr : Nat) (J : Nat → Nat) (I : Nat → Nat → Int) : Bool := inB 0 60 C && (decide (nr ≤ 300) && (decide (no ≤ 60) && (allInB 0 (C - 1) Os no && rcT n V C.toNat J I nr)))
def rcU (n : Nat) (V : Nat → Int) (Os : Nat → Int) (I : Nat → Nat → Int) (i j : Nat) : Int := rcN n V I (i + 1) (Os j).toNat
theorem rcT_no {n : Nat} {V : Nat → Int} {a : Nat} {J : Nat → Nat} {I : Nat → Nat → Int} {k m : Nat} (h : k ≤ m) (hk : rcT n V a J I k = false) : rcT n V a J I m = false := by
  induction m with
  | zero => obtain rfl : k = 0 := by omega
            exact hk
  | succ m ih =>
    by_cases e : k = m + 1
    · subst e; exact hk
    · have := ih (by omega)
      simp [rcT, this]
def RcPost (w : World) (n : Nat) (V : Nat → Int) (C : Int) (no : Nat) (Os : Nat → Int) (nr : Nat) (J : Nat → Nat) (I : Nat → Nat → Int) (e : Ending) (w' : World) : Prop := ∃ s' c', e = .returned (.tuple #[.slice s' (if rcB n V C no Os nr J I = true then nr else 0) c', .bool (rcB n V C no Os nr J I)]) ∧ OwnLL (fun q => w.heap.size ≤ q ∧ q < w'.heap.size) w' s' (if rcB n V C no Os nr J I = true then nr else 0) (fun _ => no) (rcU n V Os I) ∧ Below w.heap.size w w'
theorem ownLL_nil (S : Nat → Prop) (w : World) (s : Option Addr) (K : Nat → Nat) (V : Nat → Nat → Int) : OwnLL S w s 0 K V := ⟨fun _ => 0, fun i hi => absurd hi (Nat.not_lt_zero i), fun i i' hi => absurd hi (Nat.not_lt_zero i)⟩
theorem rc_no {w w' : World} {n : Nat} {V : Nat → Int} {C : Int} {no : Nat} {Os : Nat → Int} {nr : Nat} {J : Nat → Nat} {I : Nat → Nat → Int} {s : Option Addr} {c : Nat} (h : rcB n V C no Os nr J I = false) (hb : Below w.heap.size w w') : RcPost w n V C no Os nr J I (.returned (.tuple #[.slice s 0 c, .bool false])) w' := by
  unfold RcPost
  rw [h, if_neg (by simp)]
  exact ⟨s, c, rfl, ownLL_nil _ _ _ _ _, hb⟩
theorem rc_yes {w w' : World} {n : Nat} {V : Nat → Int} {C : Int} {no : Nat} {Os : Nat → Int} {nr : Nat} {J : Nat → Nat} {I : Nat → Nat → Int} {s : Option Addr} {c : Nat} (h : rcB n V C no Os nr J I = true) (ho : OwnLL (fun q => w.heap.size ≤ q ∧ q < w'.heap.size) w' s nr (fun _ => no) (rcU n V Os I)) (hb : Below w.heap.size w w') : RcPost w n V C no Os nr J I (.returned (.tuple #[.slice s nr c, .bool true])) w' := by
  unfold RcPost
  rw [h, if_pos rfl]
  exact ⟨s, c, rfl, ho, hb⟩
set_option maxRecDepth 20000 in
set_option maxHeartbeats 2000000 in
theorem valuesAt_any (s : Option Addr) (a c : Nat) (N : Nat → Int) (t : Option Addr) (no co : Nat) (Os : Nat → Int) (w : World) (ha : (a : Int) ≤ 1048576) (hno : (no : Int) ≤ 1048576) (hO : ∀ j, j < no → 0 ≤ Os j ∧ Os j ≤ (a : Int) - 1) (HR : Hid (RowI w s a N)) (HT : Hid (RowI w t no Os)) :
    Calls Try.prog 30 #[.slice s a c, .slice t no co] w fun e w' => e = .returned (.slice (some ⟨w.heap.size, 0, none⟩) no no) ∧ OwnI w.heap.size w' (some ⟨w.heap.size, 0, none⟩) no (fun j => N (Os j).toNat) ∧ Below w.heap.size w w' := by
  have hmk := make_i64 no (by omega)
  go_enter Try.func30, Try.ntmps30
  go_wp2_with fail
  go_loopw [13] (fun i wr => ∃ k : Nat, k ≤ no ∧ i = .int .i64 k ∧ RowTo w wr no k (fun j => N (Os j).toNat)) (fun i _ => no - (intOf i).toNat)
  case atStart => exact ⟨0, Nat.zero_le _, rfl, rowTo_start w no _ 2⟩
  case round =>
    obtain ⟨k, hk, rfl, hR⟩ := hrel
    have HK : Hid (RowTo w wr no k (fun j => N (Os j).toNat)) := hR
    obtain ⟨hB, hz, hf, hc⟩ := hR
    by_cases h1 : k < no
    · obtain ⟨g, o, rfl, hg, c0⟩ := HT.out k h1
      obtain ⟨o0, o1⟩ := hO k h1
      obtain ⟨m, hm⟩ : ∃ m : Nat, Os k = (m : Int) := ⟨(Os k).toNat, by omega⟩
      rw [hm] at c0
      have hma : m < a := by omega
      obtain ⟨g2, p2, rfl, hg2, c2⟩ := HR.out m hma
      have d0 := (hB.cell (p := ⟨g, o + k, none⟩) hg).trans c0
      have d2 := (hB.cell (p := ⟨g2, p2 + m, none⟩) hg2).trans c2
      have e0 := hc k h1
      rw [if_neg (Nat.lt_irrefl k)] at e0
      have f0 := hf k
      have k1 : (k : Int) < (no : Int) := by omega
      have k2 : (m : Int) < (a : Int) := by omega
      have HN : Hid (RowTo w (wr.setCell ⟨w.heap.size, k, none⟩ (.int .i64 (N m))) no (k + 1) (fun j => N (Os j).toNat)) := by
        have := rowTo_on HK.out (Below.refl wr.heap.size wr)
        simp only [hm, Int.toNat_natCast] at this
        exact this
      clear hc hB c0 c2 hg hg2 hm o0 o1
      go_wp2
      go_round
      case rel => exact ⟨k + 1, by omega, by go_num, HN.out⟩
      case measure => simp [intOf]; omega
    · obtain rfl : k = no := by omega
      go_wp2
      go_ret
      exact ⟨rfl, rowTo_own HK.out, hB⟩
theorem made_int {a j : Nat} (h : j < a) : (madeCells #[.int .i64 0] a)[j]? = some (.int .i64 0) := by
  simp only [madeCells, Array.getElem?_map, Array.getElem?_range, h, if_true, Option.map_some]
  show some ((#[Value.int .i64 0] : Array Value)[j % 1]!) = _
  rw [Nat.mod_one]; rfl
theorem made_sl {a j : Nat} (h : j < a) : (madeCells #[.slice none 0 0] a)[j]? = some (.slice none 0 0) := by
  simp only [madeCells, Array.getElem?_map, Array.getElem?_range, h, if_true, Option.map_some]
  show some ((#[Value.slice none 0 0] : Array Value)[j % 1]!) = _
  rw [Nat.mod_one]; rfl
theorem exec_no {w : World} {n : Nat} {V : Nat → Int} {a : Nat} {O : Nat → Int} {ni : Nat} {I : Nat → Int} {e : Ending} {w' : World} (h : ExPost w n V a O ni I e w') (q : exB n V a O ni I = false) : ∃ s c, e = .returned (.tuple #[.slice s 0 c, .bool false]) ∧ Below w.heap.size w w' := by
  unfold ExPost at h
  rw [q, if_neg (by simp)] at h
  obtain ⟨s, c, h1, -, h2⟩ := h
  exact ⟨s, c, h1, h2⟩
theorem exec_yes {w : World} {n : Nat} {V : Nat → Int} {a : Nat} {O : Nat → Int} {ni : Nat} {I : Nat → Int} {e : Ending} {w' : World} (h : ExPost w n V a O ni I e w') (q : exB n V a O ni I = true) : ∃ s c, e = .returned (.tuple #[.slice s a c, .bool true]) ∧ OwnI w.heap.size w' s a (exK V O I n).N ∧ Below w.heap.size w w' := by
  unfold ExPost at h
  rw [q, if_pos rfl] at h
  exact h
/-- The cells' row, beside the block p. -/
def NowAt (p : Nat) (wr : World) (s : Option Addr) (a : Nat) (N : Nat → Int) : Prop := ∀ j, j < a → ∃ b, s = some ⟨b, 0, none⟩ ∧ b ≠ p ∧ b < wr.heap.size ∧ wr.cell? ⟨b, j, none⟩ = some (.int .i64 (N j))
theorem NowAt.row {p : Nat} {wr : World} {s : Option Addr} {a : Nat} {N : Nat → Int} (h : NowAt p wr s a N) : RowI wr s a N := fun j hj => by
  obtain ⟨b, e, _, hl, hc⟩ := h j hj
  exact ⟨b, 0, e, hl, by rw [Nat.zero_add]; exact hc⟩
theorem NowAt.below {p : Nat} {wr w2 : World} {s : Option Addr} {a : Nat} {N : Nat → Int} (h : NowAt p wr s a N) (hb : Below wr.heap.size wr w2) : NowAt p w2 s a N := fun j hj => by
  obtain ⟨b, e, n, hl, hc⟩ := h j hj
  exact ⟨b, e, n, Nat.lt_of_lt_of_le hl hb.size, (hb.cell (p := ⟨b, j, none⟩) hl).trans hc⟩
theorem NowAt.set {p k : Nat} {wr : World} {s : Option Addr} {a : Nat} {N : Nat → Int} {u : Value} (h : NowAt p wr s a N) : NowAt p (wr.setCell ⟨p, k, none⟩ u) s a N := fun j hj => by
  obtain ⟨b, e, n, hl, hc⟩ := h j hj
  have bs := Beside.setCell p wr k u
  exact ⟨b, e, n, by simpa using hl, (bs.cell (p := ⟨b, j, none⟩) hl n).trans hc⟩
theorem NowAt.of {p base : Nat} {wr : World} {s : Option Addr} {a : Nat} {N : Nat → Int} (h : OwnI base wr s a N) (hp : p < base) : NowAt p wr s a N := fun j hj => by
  obtain ⟨b, e, h1, h2, h3, _⟩ := h j hj
  exact ⟨b, e, by omega, h2, h3⟩
end Go.Proofs.Ytmjijklmenikaaa
