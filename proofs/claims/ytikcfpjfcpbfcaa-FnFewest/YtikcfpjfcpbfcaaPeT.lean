/-
What is proved: lists of permits, told with the set of blocks that they may lie in: kept, copied, counted, compared.
-/
import Derived.Test.YtikcfpjfcpbfcaaPeE
import Derived.Test.YtikcfpjfcpbfcaaSuK
import Derived.Test.YtikcfpjfcpbfcaaTn
namespace Go.Proofs.Ytikcfpjfcpbfcaa
set_option maxRecDepth 40000
open Go.ChangeShapes Go.WideShapes Go.ChangeAt Go.RowKit
set_option linter.unusedVariables false
set_option linter.unusedSimpArgs false

def RowPer (w : World) (s : Option Addr) (n : Nat) (X : Nat → Int) (Y : Nat → Int) (K : Nat → Nat) (V : Nat → Nat → Int) : Prop := ∀ i, i < n → ∃ b o a c, s = some ⟨b, o, none⟩ ∧ b < w.heap.size ∧ w.cell? ⟨b, o + i * 3, none⟩ = some (.int .i64 (X i)) ∧ w.cell? ⟨b, o + i * 3 + 1, none⟩ = some (.int .i64 (Y i)) ∧ w.cell? ⟨b, o + i * 3 + 2, none⟩ = some (.slice a (K i) c) ∧ RowI w a (K i) (V i)
theorem RowPer.below {w' : World} {w : World} {s : Option Addr} {n : Nat} {X : Nat → Int} {Y : Nat → Int} {K : Nat → Nat} {V : Nat → Nat → Int} (h : RowPer w s n X Y K V) (hb : Below w.heap.size w w') : RowPer w' s n X Y K V := fun i hi => by
  obtain ⟨b, o, a, c, e, hl, c0, c1, c2, hr⟩ := h i hi
  exact ⟨b, o, a, c, e, Nat.lt_of_lt_of_le hl hb.size, (hb.cell (p := ⟨b, o + i * 3, none⟩) hl).trans c0, (hb.cell (p := ⟨b, o + i * 3 + 1, none⟩) hl).trans c1, (hb.cell (p := ⟨b, o + i * 3 + 2, none⟩) hl).trans c2, hr.below hb⟩
theorem RowPer.pick {w : World} {s : Option Addr} {n : Nat} {X : Nat → Int} {Y : Nat → Int} {K : Nat → Nat} {V : Nat → Nat → Int} (h : RowPer w s n X Y K V) : ∃ A C, PermitR w s n X Y A K C V := by
  have h0 : ∀ i, ∃ z : Option Addr × Nat, i < n → ∃ b o, s = some ⟨b, o, none⟩ ∧ b < w.heap.size ∧ w.cell? ⟨b, o + i * 3, none⟩ = some (.int .i64 (X i)) ∧ w.cell? ⟨b, o + i * 3 + 1, none⟩ = some (.int .i64 (Y i)) ∧ w.cell? ⟨b, o + i * 3 + 2, none⟩ = some (.slice z.1 (K i) z.2) ∧ RowI w z.1 (K i) (V i) := fun i => by
    by_cases hi : i < n
    · obtain ⟨b, o, a, c, r⟩ := h i hi
      exact ⟨(a, c), fun _ => ⟨b, o, r⟩⟩
    · exact ⟨(none, 0), fun q => absurd q hi⟩
  obtain ⟨f, hf⟩ := Classical.axiomOfChoice h0
  exact ⟨fun i => (f i).1, fun i => (f i).2, fun j hj => hf j hj⟩
theorem RowPer.of {A : Nat → Option Addr} {C : Nat → Nat} {w : World} {s : Option Addr} {n : Nat} {X : Nat → Int} {Y : Nat → Int} {K : Nat → Nat} {V : Nat → Nat → Int} (h : PermitR w s n X Y A K C V) : RowPer w s n X Y K V := fun i hi => by
  obtain ⟨b, o, r⟩ := h i hi
  exact ⟨b, o, _, _, r⟩
/-- A list in blocks of S, each inner one its own, which may be written. -/
def PerR (S : Nat → Prop) (w : World) (s : Option Addr) (n : Nat) (X : Nat → Int) (Y : Nat → Int) (K : Nat → Nat) (V : Nat → Nat → Int) : Prop := ∃ A : Nat → Nat, (∀ i, i < n → ∃ b a c, s = some ⟨b, 0, none⟩ ∧ S b ∧ b < w.heap.size ∧ (∀ o, w.frozen? ⟨b, o, none⟩ = false) ∧ w.cell? ⟨b, i * 3, none⟩ = some (.int .i64 (X i)) ∧ w.cell? ⟨b, i * 3 + 1, none⟩ = some (.int .i64 (Y i)) ∧ w.cell? ⟨b, i * 3 + 2, none⟩ = some (.slice a (K i) c) ∧ (0 < K i → a = some ⟨A i, 0, none⟩ ∧ A i ≠ b ∧ S (A i) ∧ A i < w.heap.size ∧ ∀ j, j < K i → w.cell? ⟨A i, j, none⟩ = some (.int .i64 (V i j)) ∧ w.frozen? ⟨A i, j, none⟩ = false)) ∧ ∀ i i', i < n → i' < n → 0 < K i → 0 < K i' → A i = A i' → i = i'
theorem PerR.row {S : Nat → Prop} {w : World} {s : Option Addr} {n : Nat} {X : Nat → Int} {Y : Nat → Int} {K : Nat → Nat} {V : Nat → Nat → Int} (h : PerR S w s n X Y K V) : RowPer w s n X Y K V := fun i hi => by
  obtain ⟨A, h, -⟩ := h
  obtain ⟨b, a, c, e, _, hl, _, c0, c1, c2, hr⟩ := h i hi
  refine ⟨b, 0, a, c, e, by omega, by rw [Nat.zero_add]; exact c0, by rw [Nat.zero_add]; exact c1, by rw [Nat.zero_add]; exact c2, fun j hj => ?_⟩
  obtain ⟨ea, _, _, hA, hv⟩ := hr (by omega)
  exact ⟨A i, 0, ea, by omega, by rw [Nat.zero_add]; exact (hv j hj).1⟩
theorem PerR.keep {S : Nat → Prop} {w : World} {s : Option Addr} {n : Nat} {X : Nat → Int} {Y : Nat → Int} {K : Nat → Nat} {V : Nat → Nat → Int} {w' : World} (h : PerR S w s n X Y K V) (hs : w.heap.size ≤ w'.heap.size) (hb : ∀ k, S k → k < w.heap.size → w'.heap[k]? = w.heap[k]?) : PerR S w' s n X Y K V := by
  obtain ⟨A, h, hi⟩ := h
  refine ⟨A, fun i q => ?_, hi⟩
  obtain ⟨b, a, c, e, h1, hl, hf, c0, c1, c2, hr⟩ := h i q
  have eb := hb b h1 hl
  refine ⟨b, a, c, e, h1, Nat.lt_of_lt_of_le hl hs, fun o => (World.frozen?_of_block (w := w) (a := ⟨b, o, none⟩) eb).trans (hf o), (World.cell?_of_block (w := w) (a := ⟨b, i * 3, none⟩) eb).trans c0, (World.cell?_of_block (w := w) (a := ⟨b, i * 3 + 1, none⟩) eb).trans c1, (World.cell?_of_block (w := w) (a := ⟨b, i * 3 + 2, none⟩) eb).trans c2, fun k => ?_⟩
  obtain ⟨ea, n1, n2, hA, hv⟩ := hr k
  have eA := hb (A i) n2 hA
  exact ⟨ea, n1, n2, Nat.lt_of_lt_of_le hA hs, fun j hj => ⟨(World.cell?_of_block (w := w) (a := ⟨A i, j, none⟩) eA).trans (hv j hj).1, (World.frozen?_of_block (w := w) (a := ⟨A i, j, none⟩) eA).trans (hv j hj).2⟩⟩
theorem PerR.below {S : Nat → Prop} {w : World} {s : Option Addr} {n : Nat} {X : Nat → Int} {Y : Nat → Int} {K : Nat → Nat} {V : Nat → Nat → Int} {w' : World} (h : PerR S w s n X Y K V) (hb : Below w.heap.size w w') : PerR S w' s n X Y K V := h.keep hb.size fun k _ hk => hb.block k hk
theorem PerR.set {S : Nat → Prop} {w : World} {s : Option Addr} {n : Nat} {X : Nat → Int} {Y : Nat → Int} {K : Nat → Nat} {V : Nat → Nat → Int} {r o : Nat} {u : Value} (h : PerR S w s n X Y K V) (hr : ¬ S r) : PerR S (w.setCell ⟨r, o, none⟩ u) s n X Y K V := h.keep (by simp) fun k hk hl => set_block hl (fun e => hr (e ▸ hk))
theorem PerR.of {b : Nat} {G : Nat → Nat} {w : World} {n : Nat} {X : Nat → Int} {Y : Nat → Int} {K : Nat → Nat} {V : Nat → Nat → Int} {B : Nat} (hB : B ≤ b) (h : PermitC b w n n X Y G K V) : PerR (fun k => B ≤ k ∧ k < w.heap.size) w (some ⟨b, 0, none⟩) n X Y K V := by
  obtain ⟨h1, h2, h3, h4⟩ := h
  refine ⟨G, fun i hi => ?_, fun i i' hi hi' _ _ e => ?_⟩
  · obtain ⟨c0, c1, c2, q1, q2, q3, -⟩ := h3 i hi
    refine ⟨b, _, _, rfl, ⟨hB, h1⟩, h1, h2, c0, c1, c2, fun hk => ⟨rfl, by omega, ⟨by omega, q2⟩, q2, fun j hj => ?_⟩⟩
    obtain ⟨b', e', _, _, hc, hf⟩ := q3 j hj
    cases e'
    exact ⟨hc, hf⟩
  · have m1 := (h3 i hi).2.2.2.2.2.2
    have m2 := (h3 i' hi').2.2.2.2.2.2
    rcases Nat.lt_trichotomy i i' with q | q | q
    · have := m2 i q; omega
    · exact q
    · have := m1 i' q; omega
theorem Per_each {n : Nat} {K : Nat → Nat} (h : (n : Int) + (suK K n : Int) ≤ 1048576) : ∀ i, i < n → (K i : Int) ≤ 1048576 := fun i hi => by have := suK_in (K := K) hi; omega
theorem toPermitS_r (s : Option Addr) (n c : Nat) (X : Nat → Int) (Y : Nat → Int) (K : Nat → Nat) (V : Nat → Nat → Int) (w : World) (hn : (n : Int) + (suK K n : Int) ≤ 1048576) (HR : Hid (RowPer w s n X Y K V)) :
    Calls Try.prog 50 #[.slice s n c] w fun e w' => ∃ (s' : Option Addr) (S : Nat → Prop), e = .returned (.slice s' n n) ∧ (∀ k, S k → w.heap.size ≤ k ∧ k < w'.heap.size) ∧ PerR S w' s' n X Y K V ∧ Below w.heap.size w w' := by
  obtain ⟨A, C, hr⟩ := HR.out.pick
  exact (toPermitS_any s n c X Y A K C V w (by omega) (Per_each hn) hr).mono fun e w' ⟨h1, ⟨G, h2⟩, h3⟩ => ⟨_, _, h1, fun k hk => hk, PerR.of (Nat.le_refl _) h2, h3⟩
theorem eqPermitS_r (s t : Option Addr) (n c d : Nat) (X : Nat → Int) (Y : Nat → Int) (K : Nat → Nat) (V : Nat → Nat → Int) (w : World) (hn : (n : Int) + (suK K n : Int) ≤ 1048576) (HR : Hid (RowPer w s n X Y K V)) (HT : Hid (RowPer w t n X Y K V)) :
    Calls Try.prog 57 #[.slice s n c, .slice t n d] w fun e w' => e = .returned (.bool true) ∧ Below w.heap.size w w' := by
  obtain ⟨A, C, h1⟩ := HR.out.pick
  obtain ⟨A', C', h2⟩ := HT.out.pick
  exact eqPermitS_any s t n c d X Y A K C V A' C' w (by omega) (Per_each hn) h1 h2
set_option maxRecDepth 20000 in
set_option maxHeartbeats 4000000 in
theorem szPermitS_on (s : Option Addr) (n c : Nat) (X : Nat → Int) (Y : Nat → Int) (K : Nat → Nat) (V : Nat → Nat → Int) (l : Int) (w : World) (h0 : 0 ≤ l) (h1 : l ≤ 1048576) (hn : (n : Int) + (suK K n : Int) ≤ l) (HR : Hid (RowPer w s n X Y K V)) : Calls Try.prog 43 #[.slice s n c, .int .i64 l] w fun e w' => e = .returned (.int .i64 (l - (n : Int) - (suK K n : Int))) ∧ Below w.heap.size w w' := by
  have b0 : decide (l - (n : Int) < 0) = false := decide_eq_false (by omega)
  go_enter Try.func43, Try.ntmps43
  go_wp2_with fail
  go_loopw [1, 5] (fun q i wr => ∃ k : Nat, k ≤ n ∧ i = .int .i64 k ∧ q = .int .i64 (l - (n : Int) - (suK K k : Int)) ∧ Below w.heap.size w wr) (fun _ i _ => n - (intOf i).toNat)
  case atStart => exact ⟨0, Nat.zero_le _, rfl, by simp [suK], Below.refl _ _⟩
  case round =>
    obtain ⟨k, hk, rfl, rfl, hB⟩ := hrel
    by_cases q : k < n
    · obtain ⟨b, o, a, cc, rfl, hb, c0, c1, c2, -⟩ := HR.out k q
      replace c0 := (hB.cell (p := ⟨b, o + k * 3, none⟩) hb).trans c0
      replace c1 := (hB.cell (p := ⟨b, o + k * 3 + 1, none⟩) hb).trans c1
      replace c2 := (hB.cell (p := ⟨b, o + k * 3 + 2, none⟩) hb).trans c2
      have k1 : (k : Int) < (n : Int) := by omega
      have zW := hB.size
      have su := suK_in (K := K) q
      have e1 : suK K (k + 1) = suK K k + K k := rfl
      obtain ⟨L, hL⟩ : ∃ L, l - (n : Int) - (suK K k : Int) = L := ⟨_, rfl⟩
      have HL : Hid (l - (n : Int) - (suK K (k + 1) : Int) = L - (K k : Int)) := by show _ = _; rw [e1]; omega
      obtain ⟨xX, hxX⟩ : ∃ x, X k = x := ⟨_, rfl⟩
      rw [hxX] at c0
      obtain ⟨xY, hxY⟩ : ∃ x, Y k = x := ⟨_, rfl⟩
      rw [hxY] at c1
      obtain ⟨m, hm⟩ : ∃ m, K k = m := ⟨_, rfl⟩
      rw [hm] at c2 su e1 HL
      have l0 : 0 ≤ L := by omega
      have l1 : L ≤ 1048576 := by omega
      have l2 : (m : Int) ≤ L := by omega
      rw [hL]
      clear hm hL e1 su hxX hxY
      have b1 : decide (L - (m : Int) < 0) = false := decide_eq_false (by omega)
      go_wp2_with fail
      refine (szPermit_on xX xY a m cc L _ l0 l1 l2).mono ?_
      rintro e w1 ⟨rfl, h3⟩
      have B1 : Below w.heap.size w w1 := hB.trans (h3.mono zW)
      clear c0 c1 c2 h3
      go_wp2
      go_roundw
      case rel => exact ⟨k + 1, by omega, by go_num, by rw [HL.out], (by repeat (first | with_reducible exact Below.refl _ _ | with_reducible exact B1 | with_reducible refine Below.setCell ?_ (by first | omega | (simp; done) | (simp; omega)) _ | with_reducible refine bDrewN ?_ _ | with_reducible refine Below.drew ?_ | with_reducible refine Below.alloc ?_ (by first | omega | (simp; done) | (simp; omega)) _))⟩
      case measure => first | (simp [intOf]; done) | (simp [intOf]; omega)
    · obtain rfl : k = n := by omega
      go_wp2
      go_ret
      exact ⟨ret_int rfl, (by repeat (first | with_reducible exact Below.refl _ _ | with_reducible exact hB | with_reducible refine Below.setCell ?_ (by first | omega | (simp; done) | (simp; omega)) _ | with_reducible refine bDrewN ?_ _ | with_reducible refine Below.drew ?_ | with_reducible refine Below.alloc ?_ (by first | omega | (simp; done) | (simp; omega)) _))⟩
set_option maxRecDepth 20000 in
set_option maxHeartbeats 4000000 in
theorem szPermitS_off (s : Option Addr) (n c : Nat) (X : Nat → Int) (Y : Nat → Int) (K : Nat → Nat) (V : Nat → Nat → Int) (l : Int) (w : World) (h0 : 0 ≤ l) (h1 : l ≤ 1048576) (hn : l < (n : Int) + (suK K n : Int)) (n63 : (n : Int) ≤ 9223372036854775807) (k63 : ∀ i, i < n → (K i : Int) ≤ 9223372036854775807) (HR : Hid (RowPer w s n X Y K V)) : Calls Try.prog 43 #[.slice s n c, .int .i64 l] w fun e w' => e = .returned (.int .i64 (-1)) ∧ Below w.heap.size w w' := by
  by_cases hf : l < (n : Int)
  · have b0 : l - (n : Int) < 0 := by omega
    go_enter Try.func43, Try.ntmps43
    go_wp2
    go_ret
    exact ⟨ret_int rfl, (by repeat (first | with_reducible exact Below.refl _ _ | with_reducible refine Below.setCell ?_ (by first | omega | (simp; done) | (simp; omega)) _ | with_reducible refine bDrewN ?_ _ | with_reducible refine Below.drew ?_ | with_reducible refine Below.alloc ?_ (by first | omega | (simp; done) | (simp; omega)) _))⟩
  have b0 : decide (l - (n : Int) < 0) = false := decide_eq_false (by omega)
  go_enter Try.func43, Try.ntmps43
  go_wp2_with fail
  go_loopw [1, 5] (fun q i wr => ∃ k : Nat, k ≤ n ∧ i = .int .i64 k ∧ q = .int .i64 (l - (n : Int) - (suK K k : Int)) ∧ 0 ≤ l - (n : Int) - (suK K k : Int) ∧ Below w.heap.size w wr) (fun _ i _ => n - (intOf i).toNat)
  case atStart => exact ⟨0, Nat.zero_le _, rfl, by simp [suK], by show 0 ≤ l - (n : Int) - ((0 : Nat) : Int); omega, Below.refl _ _⟩
  case round =>
    obtain ⟨k, hk, rfl, rfl, hp, hB⟩ := hrel
    by_cases q : k < n
    · obtain ⟨b, o, a, cc, rfl, hb, c0, c1, c2, -⟩ := HR.out k q
      replace c0 := (hB.cell (p := ⟨b, o + k * 3, none⟩) hb).trans c0
      replace c1 := (hB.cell (p := ⟨b, o + k * 3 + 1, none⟩) hb).trans c1
      replace c2 := (hB.cell (p := ⟨b, o + k * 3 + 2, none⟩) hb).trans c2
      have k1 : (k : Int) < (n : Int) := by omega
      have zW := hB.size
      have su := suK_in (K := K) q
      have e1 : suK K (k + 1) = suK K k + K k := rfl
      have kk := k63 k q
      obtain ⟨L, hL⟩ : ∃ L, l - (n : Int) - (suK K k : Int) = L := ⟨_, rfl⟩
      have HL : Hid (l - (n : Int) - (suK K (k + 1) : Int) = L - (K k : Int)) := by show _ = _; rw [e1]; omega
      obtain ⟨xX, hxX⟩ : ∃ x, X k = x := ⟨_, rfl⟩
      rw [hxX] at c0
      obtain ⟨xY, hxY⟩ : ∃ x, Y k = x := ⟨_, rfl⟩
      rw [hxY] at c1
      obtain ⟨m, hm⟩ : ∃ m, K k = m := ⟨_, rfl⟩
      rw [hm] at c2 su e1 HL kk
      have l0 : 0 ≤ L := by omega
      have l1 : L ≤ 1048576 := by omega
      rw [hL] at hp ⊢
      clear hm hL e1 su hxX hxY
      by_cases l2 : (m : Int) ≤ L
      · have lp : 0 ≤ l - (n : Int) - (suK K (k + 1) : Int) := by rw [HL.out]; omega
        have b1 : decide (L - (m : Int) < 0) = false := decide_eq_false (by omega)
        go_wp2_with fail
        refine (szPermit_on xX xY a m cc L _ l0 l1 l2).mono ?_
        rintro e w1 ⟨rfl, h3⟩
        have B1 : Below w.heap.size w w1 := hB.trans (h3.mono zW)
        clear c0 c1 c2 h3
        go_wp2
        go_roundw
        case rel => exact ⟨k + 1, by omega, by go_num, by rw [HL.out], lp, (by repeat (first | with_reducible exact Below.refl _ _ | with_reducible exact B1 | with_reducible refine Below.setCell ?_ (by first | omega | (simp; done) | (simp; omega)) _ | with_reducible refine bDrewN ?_ _ | with_reducible refine Below.drew ?_ | with_reducible refine Below.alloc ?_ (by first | omega | (simp; done) | (simp; omega)) _))⟩
        case measure => first | (simp [intOf]; done) | (simp [intOf]; omega)
      · go_wp2_with fail
        refine (szPermit_off0 xX xY a m cc L _ l0 l1 (by omega) kk).mono ?_
        rintro e w1 ⟨rfl, h3⟩
        have B1 : Below w.heap.size w w1 := hB.trans (h3.mono zW)
        clear c0 c1 c2 h3
        go_wp2
        go_ret
        exact ⟨ret_int rfl, (by repeat (first | with_reducible exact Below.refl _ _ | with_reducible exact B1 | with_reducible refine Below.setCell ?_ (by first | omega | (simp; done) | (simp; omega)) _ | with_reducible refine bDrewN ?_ _ | with_reducible refine Below.drew ?_ | with_reducible refine Below.alloc ?_ (by first | omega | (simp; done) | (simp; omega)) _))⟩
    · obtain rfl : k = n := by omega
      omega
end Go.Proofs.Ytikcfpjfcpbfcaa
