/-
What is proved: what the law's own helpers do with a map: its count, comparing.
-/
import Derived.Test.YtnijliidehgglaaMapR
namespace Go.Proofs.Ytnijliidehgglaa
set_option maxRecDepth 40000
open Go.RowKit
set_option linter.unusedVariables false
set_option linter.unusedSimpArgs false

theorem szKm_on (s : Option Addr) (n c : Nat) (l : Int) (w : World) (h0 : 0 ≤ l) (h1 : l ≤ 1048576) (hn : (n : Int) ≤ l) : Calls Try.prog 41 #[.slice s n c, .int .i64 l] w fun e w' => e = .returned (.int .i64 (l - (n : Int))) ∧ w' = w := by
  go_enter Try.func41, Try.ntmps41
  go_wp2
  go_ret
  exact ⟨rfl, rfl⟩
theorem szKm_off (s : Option Addr) (n c : Nat) (l : Int) (w : World) (h0 : 0 ≤ l) (h1 : l ≤ 1048576) (hn : l < (n : Int)) (hn' : (n : Int) ≤ 9223372036854775807) : Calls Try.prog 41 #[.slice s n c, .int .i64 l] w fun e w' => e = .returned (.int .i64 (-1)) ∧ w' = w := by
  go_enter Try.func41, Try.ntmps41
  go_wp2
  go_ret
  exact ⟨rfl, rfl⟩
set_option maxHeartbeats 800000 in
theorem szLine_on (x : Int) (t : Option Addr) (k c : Nat) (l : Int) (w : World) (h0 : 0 ≤ l) (h1 : l ≤ 1048576) (hn : (k : Int) ≤ l) : Calls Try.prog 24 #[.agg #[.int .i64 x, .slice t k c], .int .i64 l] w fun e w' => e = .returned (.int .i64 (l - (k : Int))) ∧ Below w.heap.size w w' := by
  go_enter Try.func24, Try.ntmps24
  go_wp2_with fail
  refine (szKm_on _ k _ _ _ h0 h1 hn).mono ?_
  rintro e w1 ⟨rfl, rfl⟩
  go_wp2
  go_ret
  exact ⟨rfl, (by repeat (first | with_reducible exact Below.refl _ _ | with_reducible refine Below.setCell ?_ (by first | omega | (simp; done) | (simp; omega)) _ | with_reducible refine bDrewN ?_ _ | with_reducible refine Below.drew ?_ | with_reducible refine Below.alloc ?_ (by first | omega | (simp; done) | (simp; omega)) _))⟩
set_option maxHeartbeats 800000 in
theorem szLine_off (x : Int) (t : Option Addr) (k c : Nat) (l : Int) (w : World) (h0 : 0 ≤ l) (h1 : l ≤ 1048576) (hn : l < (k : Int)) (hn' : (k : Int) ≤ 9223372036854775807) : Calls Try.prog 24 #[.agg #[.int .i64 x, .slice t k c], .int .i64 l] w fun e w' => e = .returned (.int .i64 (-1)) ∧ Below w.heap.size w w' := by
  go_enter Try.func24, Try.ntmps24
  go_wp2_with fail
  refine (szKm_off _ k _ _ _ h0 h1 hn hn').mono ?_
  rintro e w1 ⟨rfl, rfl⟩
  go_wp2
  go_ret
  exact ⟨rfl, (by repeat (first | with_reducible exact Below.refl _ _ | with_reducible refine Below.setCell ?_ (by first | omega | (simp; done) | (simp; omega)) _ | with_reducible refine bDrewN ?_ _ | with_reducible refine Below.drew ?_ | with_reducible refine Below.alloc ?_ (by first | omega | (simp; done) | (simp; omega)) _))⟩
set_option maxHeartbeats 800000 in
theorem szLines_far (s : Option Addr) (n c : Nat) (w : World) (hn : (1048576 : Int) < n) (hn' : (n : Int) ≤ 9223372036854775807) : Calls Try.prog 8 #[.slice s n c, .int .i64 1048576] w fun e w' => e = .returned (.int .i64 (-1)) ∧ Below w.heap.size w w' := by
  go_enter Try.func8, Try.ntmps8
  go_wp2
  go_ret
  exact ⟨rfl, (by repeat (first | with_reducible exact Below.refl _ _ | with_reducible refine Below.setCell ?_ (by first | omega | (simp; done) | (simp; omega)) _ | with_reducible refine bDrewN ?_ _ | with_reducible refine Below.drew ?_ | with_reducible refine Below.alloc ?_ (by first | omega | (simp; done) | (simp; omega)) _))⟩
set_option maxRecDepth 20000 in
set_option maxHeartbeats 2000000 in
theorem szLines_near (s : Option Addr) (n c : Nat) (S : Nat → Int) (K : Nat → Nat) (V : Nat → Nat → Int) (w : World) (hn : (n : Int) ≤ 1048576) (hK : Hid (∀ j, j < n → (K j : Int) ≤ 9223372036854775807)) (HR : Hid (MapR w s n S K V)) : Calls Try.prog 8 #[.slice s n c, .int .i64 1048576] w fun e w' => (e = .returned (.int .i64 (-1)) ∨ ∃ r : Int, 0 ≤ r ∧ e = .returned (.int .i64 r) ∧ ∀ j, j < n → (K j : Int) ≤ 1048576) ∧ Below w.heap.size w w' := by
  go_enter Try.func8, Try.ntmps8
  go_wp2_with fail
  go_loopw [1, 5] (fun q i wr => ∃ (k : Nat) (l : Int), k ≤ n ∧ i = .int .i64 k ∧ q = .int .i64 l ∧ 0 ≤ l ∧ l ≤ 1048576 ∧ Below w.heap.size w wr ∧ Hid (∀ j, j < k → (K j : Int) ≤ 1048576)) (fun _ i _ => n - (intOf i).toNat)
  case atStart => exact ⟨0, _, Nat.zero_le _, rfl, rfl, by omega, by omega, Below.refl _ _, fun j hj => by omega⟩
  case round =>
    obtain ⟨k, l, hk, rfl, rfl, l0, l1, hB, hP⟩ := hrel
    by_cases h1 : k < n
    · obtain ⟨g, o, t, c', rfl, hg, c0, c1, RK⟩ := HR.out k h1
      have u0 : wr.cell? ⟨g, o + k * 2, none⟩ = some (.int .i64 (S k)) := (hB.cell (p := ⟨g, o + k * 2, none⟩) hg).trans c0
      have u1 : wr.cell? ⟨g, o + k * 2 + 1, none⟩ = some (.slice t (K k) c') := (hB.cell (p := ⟨g, o + k * 2 + 1, none⟩) hg).trans c1
      have kk := hK.out k h1
      have k1 : (k : Int) < (n : Int) := by omega
      have HN : Hid (k < n) := h1
      have sB := hB.size
      clear c0 c1 RK
      by_cases x : (K k : Int) ≤ l
      · have PN : Hid (∀ j, j < k + 1 → (K j : Int) ≤ 1048576) := fun j hj => by
          by_cases q : j = k
          · subst q; omega
          · exact hP.out j (by omega)
        go_wp2_with fail
        refine (szLine_on (S k) t (K k) c' l _ l0 l1 x).mono ?_
        rintro e w1 ⟨rfl, h3⟩
        have B1 : Below w.heap.size w w1 := hB.trans (h3.mono sB)
        clear u0 u1
        go_wp2
        go_roundw
        case rel => exact ⟨k + 1, _, by have := HN.out; omega, by go_num, rfl, by omega, by omega, (by repeat (first | with_reducible exact Below.refl _ _ | with_reducible exact B1 | with_reducible refine Below.setCell ?_ (by first | omega | (simp; done) | (simp; omega)) _ | with_reducible refine bDrewN ?_ _ | with_reducible refine Below.drew ?_ | with_reducible refine Below.alloc ?_ (by first | omega | (simp; done) | (simp; omega)) _)), PN⟩
        case measure => have := HN.out; simp [intOf]; omega
      · go_wp2_with fail
        refine (szLine_off (S k) t (K k) c' l _ l0 l1 (by omega) kk).mono ?_
        rintro e w1 ⟨rfl, h3⟩
        have B1 : Below w.heap.size w w1 := hB.trans (h3.mono sB)
        clear u0 u1
        go_wp2
        go_ret
        exact ⟨.inl rfl, B1⟩
    · obtain rfl : k = n := by omega
      go_wp2
      go_ret
      exact ⟨.inr ⟨l, l0, rfl, hP.out⟩, hB⟩
set_option maxHeartbeats 1000000 in
theorem eqLine_any (x : Int) (t u : Option Addr) (k c d : Nat) (V : Nat → Int) (w : World) (hk : (k : Int) ≤ 1048576) (H1 : Hid (RowI w t (k * 2) V)) (H2 : Hid (RowI w u (k * 2) V)) : Calls Try.prog 30 #[.agg #[.int .i64 x, .slice t k c], .agg #[.int .i64 x, .slice u k d]] w fun e w' => e = .returned (.bool true) ∧ Below w.heap.size w w' := by
  have HW0 : Below w.heap.size w ((w.alloc (.cells #[.int .i64 x, .slice t k c] 47)).alloc (.cells #[.int .i64 x, .slice u k d] 47)) := (by repeat (first | with_reducible exact Below.refl _ _ | with_reducible refine Below.setCell ?_ (by first | omega | (simp; done) | (simp; omega)) _ | with_reducible refine bDrewN ?_ _ | with_reducible refine Below.drew ?_ | with_reducible refine Below.alloc ?_ (by first | omega | (simp; done) | (simp; omega)) _))
  have R1 : Hid (RowI ((w.alloc (.cells #[.int .i64 x, .slice t k c] 47)).alloc (.cells #[.int .i64 x, .slice u k d] 47)) t (k * 2) V) := H1.out.below HW0
  have R2 : Hid (RowI ((w.alloc (.cells #[.int .i64 x, .slice t k c] 47)).alloc (.cells #[.int .i64 x, .slice u k d] 47)) u (k * 2) V) := H2.out.below HW0
  clear HW0
  go_enter Try.func30, Try.ntmps30
  go_wp2_with fail
  refine (eqKnotS_any t u k c d V _ hk R1.out R2.out).mono ?_
  rintro e w1 ⟨rfl, h1⟩
  have B1 : Below w.heap.size w w1 := Below.trans (by repeat (first | with_reducible exact Below.refl _ _ | with_reducible refine Below.setCell ?_ (by first | omega | (simp; done) | (simp; omega)) _ | with_reducible refine bDrewN ?_ _ | with_reducible refine Below.drew ?_ | with_reducible refine Below.alloc ?_ (by first | omega | (simp; done) | (simp; omega)) _)) (h1.mono (by first | omega | (simp; done) | (simp; omega)))
  go_wp2
  go_ret
  exact ⟨rfl, B1⟩
theorem keepL {W W' : World} {p q i j k l : Nat} {a b c d : Value} (h0 : W.cell? ⟨p, i, none⟩ = some a) (h1 : W.cell? ⟨p, j, none⟩ = some b) (h2 : W.cell? ⟨q, k, none⟩ = some c) (h3 : W.cell? ⟨q, l, none⟩ = some d) (hp : p < W.heap.size) (hq : q < W.heap.size) (hb : Below W.heap.size W W') :
    W'.cell? ⟨p, i, none⟩ = some a ∧ W'.cell? ⟨p, j, none⟩ = some b ∧ W'.cell? ⟨q, k, none⟩ = some c ∧ W'.cell? ⟨q, l, none⟩ = some d :=
  ⟨(hb.cell (p := ⟨p, i, none⟩) hp).trans h0, (hb.cell (p := ⟨p, j, none⟩) hp).trans h1, (hb.cell (p := ⟨q, k, none⟩) hq).trans h2, (hb.cell (p := ⟨q, l, none⟩) hq).trans h3⟩
set_option maxRecDepth 20000 in
set_option maxHeartbeats 2000000 in
theorem eqLines_any (s t : Option Addr) (n c d : Nat) (S : Nat → Int) (K : Nat → Nat) (V : Nat → Nat → Int) (w : World) (hn : (n : Int) ≤ 1048576) (hK : Hid (∀ j, j < n → (K j : Int) ≤ 1048576)) (HR : Hid (MapR w s n S K V)) (HT : Hid (MapR w t n S K V)) :
    Calls Try.prog 12 #[.slice s n c, .slice t n d] w fun e w' => e = .returned (.bool true) ∧ Below w.heap.size w w' := by
  go_enter Try.func12, Try.ntmps12
  go_wp2_with fail
  go_loopw [5] (fun i wr => ∃ k : Nat, k ≤ n ∧ i = .int .i64 k ∧ Below w.heap.size w wr) (fun i _ => n - (intOf i).toNat)
  case atStart => exact ⟨0, Nat.zero_le _, rfl, Below.refl _ _⟩
  case round =>
    obtain ⟨k, hk, rfl, hB⟩ := hrel
    by_cases h1 : k < n
    · obtain ⟨g, o, x, y, rfl, hg, c0, c1, RX⟩ := HR.out k h1
      obtain ⟨p, q, x', y', rfl, hp, d0, d1, RY⟩ := HT.out k h1
      have u0 : wr.cell? ⟨g, o + k * 2, none⟩ = some (.int .i64 (S k)) := (hB.cell (p := ⟨g, o + k * 2, none⟩) hg).trans c0
      have u1 : wr.cell? ⟨g, o + k * 2 + 1, none⟩ = some (.slice x (K k) y) := (hB.cell (p := ⟨g, o + k * 2 + 1, none⟩) hg).trans c1
      have v0 : wr.cell? ⟨p, q + k * 2, none⟩ = some (.int .i64 (S k)) := (hB.cell (p := ⟨p, q + k * 2, none⟩) hp).trans d0
      have v1 : wr.cell? ⟨p, q + k * 2 + 1, none⟩ = some (.slice x' (K k) y') := (hB.cell (p := ⟨p, q + k * 2 + 1, none⟩) hp).trans d1
      have k1 : (k : Int) < (n : Int) := by omega
      have kk := hK.out k h1
      have zg : g < wr.heap.size := Nat.lt_of_lt_of_le hg hB.size
      have zp : p < wr.heap.size := Nat.lt_of_lt_of_le hp hB.size
      have HB : Hid (Below w.heap.size w wr) := hB
      have EX : Hid (RowI wr x (K k * 2) (V k) ∧ RowI wr x' (K k * 2) (V k)) := ⟨RX.below hB, RY.below hB⟩
      clear hB c0 c1 d0 d1 hg hp RX RY
      go_wp2_with fail
      go_region_held3 (fun w' => w'.cell? ⟨g, o + k * 2, none⟩ = some (.int .i64 (S k)) ∧ w'.cell? ⟨g, o + k * 2 + 1, none⟩ = some (.slice x (K k) y) ∧ w'.cell? ⟨p, q + k * 2, none⟩ = some (.int .i64 (S k)) ∧ w'.cell? ⟨p, q + k * 2 + 1, none⟩ = some (.slice x' (K k) y')) (first | (refine keepL u0 u1 v0 v1 zg zp ?_; exact (by repeat (first | with_reducible exact Below.refl _ _ | with_reducible exact B3 | with_reducible refine Below.setCell ?_ (by first | omega | (simp; done) | (simp; omega)) _ | with_reducible refine bDrewN ?_ _ | with_reducible refine Below.drew ?_ | with_reducible refine Below.alloc ?_ (by first | omega | (simp; done) | (simp; omega)) _)))) (first
        | (go_at_call 30; refine (eqLine_any (S k) x x' (K k) y y' (V k) _ kk (EX.out.1.below (by repeat (first | with_reducible exact Below.refl _ _ | with_reducible refine Below.setCell ?_ (by first | omega | (simp; done) | (simp; omega)) _ | with_reducible refine bDrewN ?_ _ | with_reducible refine Below.drew ?_ | with_reducible refine Below.alloc ?_ (by first | omega | (simp; done) | (simp; omega)) _))) (EX.out.2.below (by repeat (first | with_reducible exact Below.refl _ _ | with_reducible refine Below.setCell ?_ (by first | omega | (simp; done) | (simp; omega)) _ | with_reducible refine bDrewN ?_ _ | with_reducible refine Below.drew ?_ | with_reducible refine Below.alloc ?_ (by first | omega | (simp; done) | (simp; omega)) _)))).mono ?_; rintro r w3 ⟨rfl, h3⟩; have B3 : Below wr.heap.size wr w3 := Below.trans (by repeat (first | with_reducible exact Below.refl _ _ | with_reducible refine Below.setCell ?_ (by first | omega | (simp; done) | (simp; omega)) _ | with_reducible refine bDrewN ?_ _ | with_reducible refine Below.drew ?_ | with_reducible refine Below.alloc ?_ (by first | omega | (simp; done) | (simp; omega)) _)) (h3.mono (by first | omega | (simp; done) | (simp; omega)))))
      all_goals
        have B4 : Below w.heap.size w w3 := HB.out.trans (B3.mono HB.out.size)
        go_wp2
        go_roundw
        case rel => exact ⟨k + 1, by omega, by go_num, (by repeat (first | with_reducible exact Below.refl _ _ | with_reducible exact B4 | with_reducible refine Below.setCell ?_ (by first | omega | (simp; done) | (simp; omega)) _ | with_reducible refine bDrewN ?_ _ | with_reducible refine Below.drew ?_ | with_reducible refine Below.alloc ?_ (by first | omega | (simp; done) | (simp; omega)) _))⟩
        case measure => simp [intOf]; omega
    · obtain rfl : k = n := by omega
      go_wp2
      go_ret
      exact ⟨rfl, (by repeat (first | with_reducible exact Below.refl _ _ | with_reducible exact hB | with_reducible refine Below.setCell ?_ (by first | omega | (simp; done) | (simp; omega)) _ | with_reducible refine bDrewN ?_ _ | with_reducible refine Below.drew ?_ | with_reducible refine Below.alloc ?_ (by first | omega | (simp; done) | (simp; omega)) _))⟩
end Go.Proofs.Ytnijliidehgglaa
