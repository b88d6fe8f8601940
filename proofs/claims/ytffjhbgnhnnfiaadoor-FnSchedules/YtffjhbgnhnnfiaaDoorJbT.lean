/-
What is proved: lists of jobs, told with the set of blocks that they may lie in: kept, copied, counted, compared.
-/
import Derived.Test.YtffjhbgnhnnfiaaDoorJbE
import Derived.Test.YtffjhbgnhnnfiaaDoorSuK
import Derived.Test.YtffjhbgnhnnfiaaDoorTn
namespace Go.Proofs.YtffjhbgnhnnfiaaDoor
set_option maxRecDepth 40000
open Go.ChangeShapes Go.WideShapes Go.ChangeAt Go.RowKit
set_option linter.unusedVariables false
set_option linter.unusedSimpArgs false

def RowJbs (w : World) (s : Option Addr) (n : Nat) (X : Nat → Int) (K : Nat → Nat) (V : Nat → Nat → Int) : Prop := ∀ i, i < n → ∃ b o a c, s = some ⟨b, o, none⟩ ∧ b < w.heap.size ∧ w.cell? ⟨b, o + i * 2, none⟩ = some (.int .i64 (X i)) ∧ w.cell? ⟨b, o + i * 2 + 1, none⟩ = some (.slice a (K i) c) ∧ RowI w a (K i) (V i)
theorem RowJbs.below {w' : World} {w : World} {s : Option Addr} {n : Nat} {X : Nat → Int} {K : Nat → Nat} {V : Nat → Nat → Int} (h : RowJbs w s n X K V) (hb : Below w.heap.size w w') : RowJbs w' s n X K V := fun i hi => by
  obtain ⟨b, o, a, c, e, hl, c0, c1, hr⟩ := h i hi
  exact ⟨b, o, a, c, e, Nat.lt_of_lt_of_le hl hb.size, (hb.cell (p := ⟨b, o + i * 2, none⟩) hl).trans c0, (hb.cell (p := ⟨b, o + i * 2 + 1, none⟩) hl).trans c1, hr.below hb⟩
theorem RowJbs.pick {w : World} {s : Option Addr} {n : Nat} {X : Nat → Int} {K : Nat → Nat} {V : Nat → Nat → Int} (h : RowJbs w s n X K V) : ∃ A C, JobR w s n X A K C V := by
  have h0 : ∀ i, ∃ z : Option Addr × Nat, i < n → ∃ b o, s = some ⟨b, o, none⟩ ∧ b < w.heap.size ∧ w.cell? ⟨b, o + i * 2, none⟩ = some (.int .i64 (X i)) ∧ w.cell? ⟨b, o + i * 2 + 1, none⟩ = some (.slice z.1 (K i) z.2) ∧ RowI w z.1 (K i) (V i) := fun i => by
    by_cases hi : i < n
    · obtain ⟨b, o, a, c, r⟩ := h i hi
      exact ⟨(a, c), fun _ => ⟨b, o, r⟩⟩
    · exact ⟨(none, 0), fun q => absurd q hi⟩
  obtain ⟨f, hf⟩ := Classical.axiomOfChoice h0
  exact ⟨fun i => (f i).1, fun i => (f i).2, fun j hj => hf j hj⟩
theorem RowJbs.of {A : Nat → Option Addr} {C : Nat → Nat} {w : World} {s : Option Addr} {n : Nat} {X : Nat → Int} {K : Nat → Nat} {V : Nat → Nat → Int} (h : JobR w s n X A K C V) : RowJbs w s n X K V := fun i hi => by
  obtain ⟨b, o, r⟩ := h i hi
  exact ⟨b, o, _, _, r⟩
/-- A list in blocks of S, each inner one its own, which may be written. -/
def JbsR (S : Nat → Prop) (w : World) (s : Option Addr) (n : Nat) (X : Nat → Int) (K : Nat → Nat) (V : Nat → Nat → Int) : Prop := ∃ A : Nat → Nat, (∀ i, i < n → ∃ b a c, s = some ⟨b, 0, none⟩ ∧ S b ∧ b < w.heap.size ∧ (∀ o, w.frozen? ⟨b, o, none⟩ = false) ∧ w.cell? ⟨b, i * 2, none⟩ = some (.int .i64 (X i)) ∧ w.cell? ⟨b, i * 2 + 1, none⟩ = some (.slice a (K i) c) ∧ (0 < K i → a = some ⟨A i, 0, none⟩ ∧ A i ≠ b ∧ S (A i) ∧ A i < w.heap.size ∧ ∀ j, j < K i → w.cell? ⟨A i, j, none⟩ = some (.int .i64 (V i j)) ∧ w.frozen? ⟨A i, j, none⟩ = false)) ∧ ∀ i i', i < n → i' < n → 0 < K i → 0 < K i' → A i = A i' → i = i'
theorem JbsR.row {S : Nat → Prop} {w : World} {s : Option Addr} {n : Nat} {X : Nat → Int} {K : Nat → Nat} {V : Nat → Nat → Int} (h : JbsR S w s n X K V) : RowJbs w s n X K V := fun i hi => by
  obtain ⟨A, h, -⟩ := h
  obtain ⟨b, a, c, e, _, hl, _, c0, c1, hr⟩ := h i hi
  refine ⟨b, 0, a, c, e, by omega, by rw [Nat.zero_add]; exact c0, by rw [Nat.zero_add]; exact c1, fun j hj => ?_⟩
  obtain ⟨ea, _, _, hA, hv⟩ := hr (by omega)
  exact ⟨A i, 0, ea, by omega, by rw [Nat.zero_add]; exact (hv j hj).1⟩
theorem JbsR.keep {S : Nat → Prop} {w : World} {s : Option Addr} {n : Nat} {X : Nat → Int} {K : Nat → Nat} {V : Nat → Nat → Int} {w' : World} (h : JbsR S w s n X K V) (hs : w.heap.size ≤ w'.heap.size) (hb : ∀ k, S k → k < w.heap.size → w'.heap[k]? = w.heap[k]?) : JbsR S w' s n X K V := by
  obtain ⟨A, h, hi⟩ := h
  refine ⟨A, fun i q => ?_, hi⟩
  obtain ⟨b, a, c, e, h1, hl, hf, c0, c1, hr⟩ := h i q
  have eb := hb b h1 hl
  refine ⟨b, a, c, e, h1, Nat.lt_of_lt_of_le hl hs, fun o => (World.frozen?_of_block (w := w) (a := ⟨b, o, none⟩) eb).trans (hf o), (World.cell?_of_block (w := w) (a := ⟨b, i * 2, none⟩) eb).trans c0, (World.cell?_of_block (w := w) (a := ⟨b, i * 2 + 1, none⟩) eb).trans c1, fun k => ?_⟩
  obtain ⟨ea, n1, n2, hA, hv⟩ := hr k
  have eA := hb (A i) n2 hA
  exact ⟨ea, n1, n2, Nat.lt_of_lt_of_le hA hs, fun j hj => ⟨(World.cell?_of_block (w := w) (a := ⟨A i, j, none⟩) eA).trans (hv j hj).1, (World.frozen?_of_block (w := w) (a := ⟨A i, j, none⟩) eA).trans (hv j hj).2⟩⟩
theorem JbsR.below {S : Nat → Prop} {w : World} {s : Option Addr} {n : Nat} {X : Nat → Int} {K : Nat → Nat} {V : Nat → Nat → Int} {w' : World} (h : JbsR S w s n X K V) (hb : Below w.heap.size w w') : JbsR S w' s n X K V := h.keep hb.size fun k _ hk => hb.block k hk
theorem JbsR.set {S : Nat → Prop} {w : World} {s : Option Addr} {n : Nat} {X : Nat → Int} {K : Nat → Nat} {V : Nat → Nat → Int} {r o : Nat} {u : Value} (h : JbsR S w s n X K V) (hr : ¬ S r) : JbsR S (w.setCell ⟨r, o, none⟩ u) s n X K V := h.keep (by simp) fun k hk hl => set_block hl (fun e => hr (e ▸ hk))
theorem JbsR.of {b : Nat} {G : Nat → Nat} {w : World} {n : Nat} {X : Nat → Int} {K : Nat → Nat} {V : Nat → Nat → Int} {B : Nat} (hB : B ≤ b) (h : JobC b w n n X G K V) : JbsR (fun k => B ≤ k ∧ k < w.heap.size) w (some ⟨b, 0, none⟩) n X K V := by
  obtain ⟨h1, h2, h3, h4⟩ := h
  refine ⟨G, fun i hi => ?_, fun i i' hi hi' _ _ e => ?_⟩
  · obtain ⟨c0, c1, q1, q2, q3, -⟩ := h3 i hi
    refine ⟨b, _, _, rfl, ⟨hB, h1⟩, h1, h2, c0, c1, fun hk => ⟨rfl, by omega, ⟨by omega, q2⟩, q2, fun j hj => ?_⟩⟩
    obtain ⟨b', e', _, _, hc, hf⟩ := q3 j hj
    cases e'
    exact ⟨hc, hf⟩
  · have m1 := (h3 i hi).2.2.2.2.2
    have m2 := (h3 i' hi').2.2.2.2.2
    rcases Nat.lt_trichotomy i i' with q | q | q
    · have := m2 i q; omega
    · exact q
    · have := m1 i' q; omega
theorem Jbs_each {n : Nat} {K : Nat → Nat} (h : (n : Int) + (suK K n : Int) ≤ 1048576) : ∀ i, i < n → (K i : Int) ≤ 1048576 := fun i hi => by have := suK_in (K := K) hi; omega
theorem toJobS_r (s : Option Addr) (n c : Nat) (X : Nat → Int) (K : Nat → Nat) (V : Nat → Nat → Int) (w : World) (hn : (n : Int) + (suK K n : Int) ≤ 1048576) (HR : Hid (RowJbs w s n X K V)) :
    Calls Tryd.prog 16 #[.slice s n c] w fun e w' => ∃ (s' : Option Addr) (S : Nat → Prop), e = .returned (.slice s' n n) ∧ (∀ k, S k → w.heap.size ≤ k ∧ k < w'.heap.size) ∧ JbsR S w' s' n X K V ∧ Below w.heap.size w w' := by
  obtain ⟨A, C, hr⟩ := HR.out.pick
  exact (toJobS_any s n c X A K C V w (by omega) (Jbs_each hn) hr).mono fun e w' ⟨h1, ⟨G, h2⟩, h3⟩ => ⟨_, _, h1, fun k hk => hk, JbsR.of (Nat.le_refl _) h2, h3⟩
theorem eqJobS_r (s t : Option Addr) (n c d : Nat) (X : Nat → Int) (K : Nat → Nat) (V : Nat → Nat → Int) (w : World) (hn : (n : Int) + (suK K n : Int) ≤ 1048576) (HR : Hid (RowJbs w s n X K V)) (HT : Hid (RowJbs w t n X K V)) :
    Calls Tryd.prog 17 #[.slice s n c, .slice t n d] w fun e w' => e = .returned (.bool true) ∧ Below w.heap.size w w' := by
  obtain ⟨A, C, h1⟩ := HR.out.pick
  obtain ⟨A', C', h2⟩ := HT.out.pick
  exact eqJobS_any s t n c d X A K C V A' C' w (by omega) (Jbs_each hn) h1 h2
set_option maxRecDepth 20000 in
set_option maxHeartbeats 4000000 in
theorem szJobS_on (s : Option Addr) (n c : Nat) (X : Nat → Int) (K : Nat → Nat) (V : Nat → Nat → Int) (l : Int) (w : World) (h0 : 0 ≤ l) (h1 : l ≤ 1048576) (hn : (n : Int) + (suK K n : Int) ≤ l) (HR : Hid (RowJbs w s n X K V)) : Calls Tryd.prog 15 #[.slice s n c, .int .i64 l] w fun e w' => e = .returned (.int .i64 (l - (n : Int) - (suK K n : Int))) ∧ Below w.heap.size w w' := by
  have b0 : decide (l - (n : Int) < 0) = false := decide_eq_false (by omega)
  go_enter Tryd.func15, Tryd.ntmps15
  go_wp2_with fail
  go_loopw [1, 5] (fun q i wr => ∃ k : Nat, k ≤ n ∧ i = .int .i64 k ∧ q = .int .i64 (l - (n : Int) - (suK K k : Int)) ∧ Below w.heap.size w wr) (fun _ i _ => n - (intOf i).toNat)
  case atStart => exact ⟨0, Nat.zero_le _, rfl, by simp [suK], Below.refl _ _⟩
  case round =>
    obtain ⟨k, hk, rfl, rfl, hB⟩ := hrel
    by_cases q : k < n
    · obtain ⟨b, o, a, cc, rfl, hb, c0, c1, -⟩ := HR.out k q
      replace c0 := (hB.cell (p := ⟨b, o + k * 2, none⟩) hb).trans c0
      replace c1 := (hB.cell (p := ⟨b, o + k * 2 + 1, none⟩) hb).trans c1
      have k1 : (k : Int) < (n : Int) := by omega
      have zW := hB.size
      have su := suK_in (K := K) q
      have e1 : suK K (k + 1) = suK K k + K k := rfl
      obtain ⟨L, hL⟩ : ∃ L, l - (n : Int) - (suK K k : Int) = L := ⟨_, rfl⟩
      have HL : Hid (l - (n : Int) - (suK K (k + 1) : Int) = L - (K k : Int)) := by show _ = _; rw [e1]; omega
      obtain ⟨xX, hxX⟩ : ∃ x, X k = x := ⟨_, rfl⟩
      rw [hxX] at c0
      obtain ⟨m, hm⟩ : ∃ m, K k = m := ⟨_, rfl⟩
      rw [hm] at c1 su e1 HL
      have l0 : 0 ≤ L := by omega
      have l1 : L ≤ 1048576 := by omega
      have l2 : (m : Int) ≤ L := by omega
      rw [hL]
      clear hm hL e1 su hxX
      have b1 : decide (L - (m : Int) < 0) = false := decide_eq_false (by omega)
      go_wp2_with fail
      refine (szJob_on xX a m cc L _ l0 l1 l2).mono ?_
      rintro e w1 ⟨rfl, h3⟩
      have B1 : Below w.heap.size w w1 := hB.trans (h3.mono zW)
      clear c0 c1 h3
      go_wp2
      go_roundw
      case rel => exact ⟨k + 1, by omega, by go_num, by rw [HL.out], (by repeat (first | with_reducible exact Below.refl _ _ | with_reducible exact B1 | with_reducible refine Below.setCell ?_ (by first | omega | (simp; done) | (simp; omega)) _ | with_reducible refine bDrewN ?_ _ | with_reducible refine Below.drew ?_ | with_reducible refine Below.alloc ?_ (by first | omega | (simp; done) | (simp; omega)) _))⟩
      case measure => first | (simp [intOf]; done) | (simp [intOf]; omega)
    · obtain rfl : k = n := by omega
      go_wp2
      go_ret
      exact ⟨ret_int rfl, (by repeat (first | with_reducible exact Below.refl _ _ | with_reducible exact hB | with_reducible refine Below.setCell ?_ (by first | omega | (simp; done) | (simp; omega)) _ | with_reducible refine bDrewN ?_ _ | with_reducible refine Below.drew ?_ | with_reducible refine Below.alloc ?_ (by first | omega | (simp; done) | (simp; omega)) _))⟩
set_option maxRecDepth 20000 in
set_option maxHeartbeats 4000000 in
theorem szJobS_off (s : Option Addr) (n c : Nat) (X : Nat → Int) (K : Nat → Nat) (V : Nat → Nat → Int) (l : Int) (w : World) (h0 : 0 ≤ l) (h1 : l ≤ 1048576) (hn : l < (n : Int) + (suK K n : Int)) (n63 : (n : Int) ≤ 9223372036854775807) (k63 : ∀ i, i < n → (K i : Int) ≤ 9223372036854775807) (HR : Hid (RowJbs w s n X K V)) : Calls Tryd.prog 15 #[.slice s n c, .int .i64 l] w fun e w' => e = .returned (.int .i64 (-1)) ∧ Below w.heap.size w w' := by
  by_cases hf : l < (n : Int)
  · have b0 : l - (n : Int) < 0 := by omega
    go_enter Tryd.func15, Tryd.ntmps15
    go_wp2
    go_ret
    exact ⟨ret_int rfl, (by repeat (first | with_reducible exact Below.refl _ _ | with_reducible refine Below.setCell ?_ (by first | omega | (simp; done) | (simp; omega)) _ | with_reducible refine bDrewN ?_ _ | with_reducible refine Below.drew ?_ | with_reducible refine Below.alloc ?_ (by first | omega | (simp; done) | (simp; omega)) _))⟩
  have b0 : decide (l - (n : Int) < 0) = false := decide_eq_false (by omega)
  go_enter Tryd.func15, Tryd.ntmps15
  go_wp2_with fail
  go_loopw [1, 5] (fun q i wr => ∃ k : Nat, k ≤ n ∧ i = .int .i64 k ∧ q = .int .i64 (l - (n : Int) - (suK K k : Int)) ∧ 0 ≤ l - (n : Int) - (suK K k : Int) ∧ Below w.heap.size w wr) (fun _ i _ => n - (intOf i).toNat)
  case atStart => exact ⟨0, Nat.zero_le _, rfl, by simp [suK], by show 0 ≤ l - (n : Int) - ((0 : Nat) : Int); omega, Below.refl _ _⟩
  case round =>
    obtain ⟨k, hk, rfl, rfl, hp, hB⟩ := hrel
    by_cases q : k < n
    · obtain ⟨b, o, a, cc, rfl, hb, c0, c1, -⟩ := HR.out k q
      replace c0 := (hB.cell (p := ⟨b, o + k * 2, none⟩) hb).trans c0
      replace c1 := (hB.cell (p := ⟨b, o + k * 2 + 1, none⟩) hb).trans c1
      have k1 : (k : Int) < (n : Int) := by omega
      have zW := hB.size
      have su := suK_in (K := K) q
      have e1 : suK K (k + 1) = suK K k + K k := rfl
      have kk := k63 k q
      obtain ⟨L, hL⟩ : ∃ L, l - (n : Int) - (suK K k : Int) = L := ⟨_, rfl⟩
      have HL : Hid (l - (n : Int) - (suK K (k + 1) : Int) = L - (K k : Int)) := by show _ = _; rw [e1]; omega
      obtain ⟨xX, hxX⟩ : ∃ x, X k = x := ⟨_, rfl⟩
      rw [hxX] at c0
      obtain ⟨m, hm⟩ : ∃ m, K k = m := ⟨_, rfl⟩
      rw [hm] at c1 su e1 HL kk
      have l0 : 0 ≤ L := by omega
      have l1 : L ≤ 1048576 := by omega
      rw [hL] at hp ⊢
      clear hm hL e1 su hxX
      by_cases l2 : (m : Int) ≤ L
      · have lp : 0 ≤ l - (n : Int) - (suK K (k + 1) : Int) := by rw [HL.out]; omega
        have b1 : decide (L - (m : Int) < 0) = false := decide_eq_false (by omega)
        go_wp2_with fail
        refine (szJob_on xX a m cc L _ l0 l1 l2).mono ?_
        rintro e w1 ⟨rfl, h3⟩
        have B1 : Below w.heap.size w w1 := hB.trans (h3.mono zW)
        clear c0 c1 h3
        go_wp2
        go_roundw
        case rel => exact ⟨k + 1, by omega, by go_num, by rw [HL.out], lp, (by repeat (first | with_reducible exact Below.refl _ _ | with_reducible exact B1 | with_reducible refine Below.setCell ?_ (by first | omega | (simp; done) | (simp; omega)) _ | with_reducible refine bDrewN ?_ _ | with_reducible refine Below.drew ?_ | with_reducible refine Below.alloc ?_ (by first | omega | (simp; done) | (simp; omega)) _))⟩
        case measure => first | (simp [intOf]; done) | (simp [intOf]; omega)
      · go_wp2_with fail
        refine (szJob_off0 xX a m cc L _ l0 l1 (by omega) kk).mono ?_
        rintro e w1 ⟨rfl, h3⟩
        have B1 : Below w.heap.size w w1 := hB.trans (h3.mono zW)
        clear c0 c1 h3
        go_wp2
        go_ret
        exact ⟨ret_int rfl, (by repeat (first | with_reducible exact Below.refl _ _ | with_reducible exact B1 | with_reducible refine Below.setCell ?_ (by first | omega | (simp; done) | (simp; omega)) _ | with_reducible refine bDrewN ?_ _ | with_reducible refine Below.drew ?_ | with_reducible refine Below.alloc ?_ (by first | omega | (simp; done) | (simp; omega)) _))⟩
    · obtain rfl : k = n := by omega
      omega
end Go.Proofs.YtffjhbgnhnnfiaaDoor
