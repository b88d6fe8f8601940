/-
What is proved: what the law's own helpers do with lists of lists: their count, whether two are the same.
-/
import Derived.Test.YtpaiajeigdifcaaLL
import Derived.Test.YtpaiajeigdifcaaI64E
import Derived.Test.YtpaiajeigdifcaaSuK
namespace Go.Proofs.Ytpaiajeigdifcaa
set_option maxRecDepth 40000
open Go.RowKit
set_option linter.unusedVariables false
set_option linter.unusedSimpArgs false

set_option maxRecDepth 20000 in
set_option maxHeartbeats 2000000 in
theorem szInt64SS_on (s : Option Addr) (n c : Nat) (K : Nat → Nat) (V : Nat → Nat → Int) (l : Int) (w : World) (h0 : 0 ≤ l) (h1 : l ≤ 1048576) (hn : (n : Int) + (suK K n : Int) ≤ l) (HR : Hid (RowLL w s n K V)) : Calls Try.prog 27 #[.slice s n c, .int .i64 l] w fun e w' => e = .returned (.int .i64 (l - (n : Int) - (suK K n : Int))) ∧ w' = w := by
  have b0 : decide (l - (n : Int) < 0) = false := decide_eq_false (by omega)
  go_enter Try.func27, Try.ntmps27
  go_wp2_with fail
  go_loopw [1, 5] (fun q i wr => ∃ k : Nat, k ≤ n ∧ i = .int .i64 k ∧ q = .int .i64 (l - (n : Int) - (suK K k : Int)) ∧ wr = w) (fun _ i _ => n - (intOf i).toNat)
  case atStart => exact ⟨0, Nat.zero_le _, rfl, by simp [suK], rfl⟩
  case round =>
    obtain ⟨k, hk, rfl, rfl, rfl⟩ := hrel
    by_cases q : k < n
    · obtain ⟨b, o, a, cc, rfl, hb, hc, -⟩ := HR.out k q
      have k1 : (k : Int) < (n : Int) := by omega
      have su := suK_in (K := K) q
      have e1 : suK K (k + 1) = suK K k + K k := rfl
      obtain ⟨L, hL⟩ : ∃ L, l - (n : Int) - (suK K k : Int) = L := ⟨_, rfl⟩
      have HL : Hid (l - (n : Int) - (suK K (k + 1) : Int) = L - (K k : Int)) := by show _ = _; rw [e1]; omega
      obtain ⟨m, hm⟩ : ∃ m, K k = m := ⟨_, rfl⟩
      rw [hm] at hc su e1 HL
      have l0 : 0 ≤ L := by omega
      have l1 : L ≤ 1048576 := by omega
      have l2 : (m : Int) ≤ L := by omega
      rw [hL]
      clear hm hL e1 su
      have b1 : decide (L - (m : Int) < 0) = false := decide_eq_false (by omega)
      go_wp2_with fail
      refine (szInt64S_on a m cc L _ l0 l1 l2).mono ?_
      rintro e w1 ⟨rfl, rfl⟩
      go_wp2
      go_roundw
      case rel => exact ⟨k + 1, by omega, by go_num, by rw [HL.out], by first | rfl | trivial⟩
      case measure => first | (simp [intOf]; done) | (simp [intOf]; omega)
    · obtain rfl : k = n := by omega
      go_wp2
      go_ret
      exact ⟨ret_int rfl, rfl⟩
set_option maxRecDepth 20000 in
set_option maxHeartbeats 2000000 in
theorem szInt64SS_off (s : Option Addr) (n c : Nat) (K : Nat → Nat) (V : Nat → Nat → Int) (l : Int) (w : World) (h0 : 0 ≤ l) (h1 : l ≤ 1048576) (hn : l < (n : Int) + (suK K n : Int)) (n63 : (n : Int) ≤ 9223372036854775807) (k63 : ∀ i, i < n → (K i : Int) ≤ 9223372036854775807) (HR : Hid (RowLL w s n K V)) : Calls Try.prog 27 #[.slice s n c, .int .i64 l] w fun e w' => e = .returned (.int .i64 (-1)) ∧ w' = w := by
  by_cases hf : l < (n : Int)
  · have b0 : l - (n : Int) < 0 := by omega
    go_enter Try.func27, Try.ntmps27
    go_wp2
    go_ret
    exact ⟨ret_int rfl, rfl⟩
  have b0 : decide (l - (n : Int) < 0) = false := decide_eq_false (by omega)
  go_enter Try.func27, Try.ntmps27
  go_wp2_with fail
  go_loopw [1, 5] (fun q i wr => ∃ k : Nat, k ≤ n ∧ i = .int .i64 k ∧ q = .int .i64 (l - (n : Int) - (suK K k : Int)) ∧ 0 ≤ l - (n : Int) - (suK K k : Int) ∧ wr = w) (fun _ i _ => n - (intOf i).toNat)
  case atStart => exact ⟨0, Nat.zero_le _, rfl, by simp [suK], by show 0 ≤ l - (n : Int) - ((0 : Nat) : Int); omega, rfl⟩
  case round =>
    obtain ⟨k, hk, rfl, rfl, hp, rfl⟩ := hrel
    by_cases q : k < n
    · obtain ⟨b, o, a, cc, rfl, hb, hc, -⟩ := HR.out k q
      have k1 : (k : Int) < (n : Int) := by omega
      have e1 : suK K (k + 1) = suK K k + K k := rfl
      have kk := k63 k q
      obtain ⟨L, hL⟩ : ∃ L, l - (n : Int) - (suK K k : Int) = L := ⟨_, rfl⟩
      have HL : Hid (l - (n : Int) - (suK K (k + 1) : Int) = L - (K k : Int)) := by show _ = _; rw [e1]; omega
      obtain ⟨m, hm⟩ : ∃ m, K k = m := ⟨_, rfl⟩
      rw [hm] at hc e1 HL kk
      have l1 : L ≤ 1048576 := by omega
      rw [hL] at hp ⊢
      clear hm hL e1
      by_cases l2 : (m : Int) ≤ L
      · have b1 : decide (L - (m : Int) < 0) = false := decide_eq_false (by omega)
        have l3 : 0 ≤ L - (m : Int) := by omega
        go_wp2_with fail
        refine (szInt64S_on a m cc L _ hp l1 l2).mono ?_
        rintro e w1 ⟨rfl, rfl⟩
        go_wp2
        go_roundw
        case rel => exact ⟨k + 1, by omega, by go_num, by rw [HL.out], by rw [HL.out]; exact l3, by first | rfl | trivial⟩
        case measure => first | (simp [intOf]; done) | (simp [intOf]; omega)
      · go_wp2_with fail
        refine (szInt64S_off a m cc L _ hp l1 (by omega) kk).mono ?_
        rintro e w1 ⟨rfl, rfl⟩
        go_wp2
        go_ret
        exact ⟨ret_int rfl, rfl⟩
    · obtain rfl : k = n := by omega
      omega
theorem keepLL {W W' : World} {p q i j : Nat} {a b : Value} (h0 : W.cell? ⟨p, i, none⟩ = some a) (g0 : W.cell? ⟨q, j, none⟩ = some b) (hp : p < W.heap.size) (hq : q < W.heap.size) (hb : Below W.heap.size W W') : W'.cell? ⟨p, i, none⟩ = some a ∧ W'.cell? ⟨q, j, none⟩ = some b :=
  ⟨(hb.cell (p := ⟨p, i, none⟩) hp).trans h0, (hb.cell (p := ⟨q, j, none⟩) hq).trans g0⟩
set_option maxRecDepth 20000 in
set_option maxHeartbeats 2000000 in
theorem eqInt64SS_any (s t : Option Addr) (n c d : Nat) (K : Nat → Nat) (V : Nat → Nat → Int) (w : World) (hn : (n : Int) ≤ 1048576) (hK : ∀ i, i < n → (K i : Int) ≤ 1048576) (HR : Hid (RowLL w s n K V)) (HT : Hid (RowLL w t n K V)) :
    Calls Try.prog 32 #[.slice s n c, .slice t n d] w fun e w' => e = .returned (.bool true) ∧ Below w.heap.size w w' := by
  go_enter Try.func32, Try.ntmps32
  go_wp2_with fail
  go_loopw [5] (fun i wr => ∃ k : Nat, k ≤ n ∧ i = .int .i64 k ∧ Below w.heap.size w wr) (fun i _ => n - (intOf i).toNat)
  case atStart => exact ⟨0, Nat.zero_le _, rfl, Below.refl _ _⟩
  case round =>
    obtain ⟨k, hk, rfl, hB⟩ := hrel
    by_cases h1 : k < n
    · obtain ⟨g, o, a1, c1, rfl, hg, x0, r0⟩ := HR.out k h1
      obtain ⟨p, q, a2, c2, rfl, hp, x1, r1⟩ := HT.out k h1
      have u0 := (hB.cell (p := ⟨g, o + k, none⟩) hg).trans x0
      have v0 := (hB.cell (p := ⟨p, q + k, none⟩) hp).trans x1
      have k1 : (k : Int) < (n : Int) := by omega
      have zg : g < wr.heap.size := Nat.lt_of_lt_of_le hg hB.size
      have zp : p < wr.heap.size := Nat.lt_of_lt_of_le hp hB.size
      have kk := hK k h1
      have HA : Hid (RowI wr a1 (K k) (V k)) := r0.below hB
      have HC : Hid (RowI wr a2 (K k) (V k)) := r1.below hB
      obtain ⟨m, hm⟩ : ∃ m, K k = m := ⟨_, rfl⟩
      rw [hm] at u0 v0 kk HA HC
      have HB : Hid (Below w.heap.size w wr) := hB
      clear hB x0 x1 r0 r1 hg hp hm
      go_wp2_with fail
      go_region_held3 (fun w' => w'.cell? ⟨g, o + k, none⟩ = some (.slice a1 m c1) ∧ w'.cell? ⟨p, q + k, none⟩ = some (.slice a2 m c2)) (first | (refine keepLL u0 v0 zg zp ?_; exact (by repeat (first | with_reducible exact Below.refl _ _ | with_reducible exact B3 | with_reducible refine Below.setCell ?_ (by first | omega | (simp; done) | (simp; omega)) _ | with_reducible refine bDrewN ?_ _ | with_reducible refine Below.drew ?_ | with_reducible refine Below.alloc ?_ (by first | omega | (simp; done) | (simp; omega)) _)))) (first
        | (go_at_call 30; refine (eqInt64S_any _ _ m _ _ (V k) _ kk (HA.out.below (by repeat (first | with_reducible exact Below.refl _ _ | with_reducible refine Below.setCell ?_ (by first | omega | (simp; done) | (simp; omega)) _ | with_reducible refine bDrewN ?_ _ | with_reducible refine Below.drew ?_ | with_reducible refine Below.alloc ?_ (by first | omega | (simp; done) | (simp; omega)) _))) (HC.out.below (by repeat (first | with_reducible exact Below.refl _ _ | with_reducible refine Below.setCell ?_ (by first | omega | (simp; done) | (simp; omega)) _ | with_reducible refine bDrewN ?_ _ | with_reducible refine Below.drew ?_ | with_reducible refine Below.alloc ?_ (by first | omega | (simp; done) | (simp; omega)) _)))).mono ?_; rintro r w3 ⟨rfl, h3⟩; have B3 : Below wr.heap.size wr w3 := Below.trans (by repeat (first | with_reducible exact Below.refl _ _ | with_reducible refine Below.setCell ?_ (by first | omega | (simp; done) | (simp; omega)) _ | with_reducible refine bDrewN ?_ _ | with_reducible refine Below.drew ?_ | with_reducible refine Below.alloc ?_ (by first | omega | (simp; done) | (simp; omega)) _)) (h3.mono (by first | omega | (simp; done) | (simp; omega)))))
      all_goals
        have B4 : Below w.heap.size w w3 := HB.out.trans (B3.mono HB.out.size)
        go_wp2
        go_round
        case rel => exact ⟨k + 1, by omega, by go_num, (by repeat (first | with_reducible exact Below.refl _ _ | with_reducible exact B4 | with_reducible refine Below.setCell ?_ (by first | omega | (simp; done) | (simp; omega)) _ | with_reducible refine bDrewN ?_ _ | with_reducible refine Below.drew ?_ | with_reducible refine Below.alloc ?_ (by first | omega | (simp; done) | (simp; omega)) _))⟩
        case measure => simp [intOf]; omega
    · obtain rfl : k = n := by omega
      go_wp2
      go_ret
      exact ⟨rfl, (by repeat (first | with_reducible exact Below.refl _ _ | with_reducible exact hB | with_reducible refine Below.setCell ?_ (by first | omega | (simp; done) | (simp; omega)) _ | with_reducible refine bDrewN ?_ _ | with_reducible refine Below.drew ?_ | with_reducible refine Below.alloc ?_ (by first | omega | (simp; done) | (simp; omega)) _))⟩
end Go.Proofs.Ytpaiajeigdifcaa
