/-
What is proved: what the law's own helpers do with lists of lists: their count, whether two are the same.
-/
import Derived.Test.YtlbbdifmjdpfiaaLLbz
import Derived.Test.YtlbbdifmjdpfiaaSuKz

namespace Go.Proofs.Ytlbbdifmjdpfiaa
set_option maxRecDepth 40000
open Go.RowKit
set_option linter.unusedVariables false
set_option linter.unusedSimpArgs false

theorem keepLL {W W' : World} {p q i j : Nat} {a b : Value} (h0 : W.cell? ⟨p, i, none⟩ = some a) (g0 : W.cell? ⟨q, j, none⟩ = some b) (hp : p < W.heap.size) (hq : q < W.heap.size) (hb : Below W.heap.size W W') : W'.cell? ⟨p, i, none⟩ = some a ∧ W'.cell? ⟨q, j, none⟩ = some b :=
  ⟨(hb.cell (p := ⟨p, i, none⟩) hp).trans h0, (hb.cell (p := ⟨q, j, none⟩) hq).trans g0⟩
set_option maxRecDepth 20000 in
set_option maxHeartbeats 2000000 in
theorem eqInt64SS_any (s t : Option Addr) (n c d : Nat) (K : Nat → Nat) (V : Nat → Nat → Int) (w : World) (hn : (n : Int) ≤ 1048576) (hK : ∀ i, i < n → (K i : Int) ≤ 1048576) (HR : Hid (RowLL w s n K V)) (HT : Hid (RowLL w t n K V)) :
    Calls Try.prog 21 #[.slice s n c, .slice t n d] w fun e w' => e = .returned (.bool true) ∧ Below w.heap.size w w' := by
  go_enter Try.func21, Try.ntmps21
  go_wp2_with fail
  go_loopw [5] (fun i wr => ∃ k : Nat, k ≤ n ∧ i = .int .i64 k ∧ Below w.heap.size w wr) (fun i _ => n - (intOf i).toNat)
  case atStart => exact ⟨0, Nat.zero_le _, rfl, Below.refl _ _⟩
  case round =>
    obtain ⟨k, hk, rfl, hB⟩ := hrel
    by_cases h1 : k < n
    · obtain ⟨g, o, a1, c1, rfl, hg, x0, r0⟩ := HR.out k h1
      obtain ⟨p, q, a2, c2, rfl, hp, x1, r1⟩ := HT.out k h1
      have u0 := (hB.cell (p := ⟨g, o + k, none⟩) hg).trans x0
      have v0 := (hB.cell (p := ⟨p, q + k, none⟩) hp).trans x1
      have k1 : (k : Int) < (n : Int) := by omega
      have zg : g < wr.heap.size := Nat.lt_of_lt_of_le hg hB.size
      have zp : p < wr.heap.size := Nat.lt_of_lt_of_le hp hB.size
      have kk := hK k h1
      have HA : Hid (RowI wr a1 (K k) (V k)) := r0.below hB
      have HC : Hid (RowI wr a2 (K k) (V k)) := r1.below hB
      obtain ⟨m, hm⟩ : ∃ m, K k = m := ⟨_, rfl⟩
      rw [hm] at u0 v0 kk HA HC
      have HB : Hid (Below w.heap.size w wr) := hB
      clear hB x0 x1 r0 r1 hg hp hm
      go_wp2_with fail
      go_region_held3 (fun w' => w'.cell? ⟨g, o + k, none⟩ = some (.slice a1 m c1) ∧ w'.cell? ⟨p, q + k, none⟩ = some (.slice a2 m c2)) (first | (refine keepLL u0 v0 zg zp ?_; exact (by repeat (first | with_reducible exact Below.refl _ _ | with_reducible exact B3 | with_reducible refine Below.setCell ?_ (by first | omega | (simp; done) | (simp; omega)) _ | with_reducible refine bDrewN ?_ _ | with_reducible refine Below.drew ?_ | with_reducible refine Below.alloc ?_ (by first | omega | (simp; done) | (simp; omega)) _)))) (first
        | (go_at_call 32; refine (eqInt64S_any _ _ m _ _ (V k) _ kk (HA.out.below (by repeat (first | with_reducible exact Below.refl _ _ | with_reducible refine Below.setCell ?_ (by first | omega | (simp; done) | (simp; omega)) _ | with_reducible refine bDrewN ?_ _ | with_reducible refine Below.drew ?_ | with_reducible refine Below.alloc ?_ (by first | omega | (simp; done) | (simp; omega)) _))) (HC.out.below (by repeat (first | with_reducible exact Below.refl _ _ | with_reducible refine Below.setCell ?_ (by first | omega | (simp; done) | (simp; omega)) _ | with_reducible refine bDrewN ?_ _ | with_reducible refine Below.drew ?_ | with_reducible refine Below.alloc ?_ (by first | omega | (simp; done) | (simp; omega)) _)))).mono ?_; rintro r w3 ⟨rfl, h3⟩; have B3 : Below wr.heap.size wr w3 := Below.trans (by repeat (first | with_reducible exact Below.refl _ _ | with_reducible refine Below.setCell ?_ (by first | omega | (simp; done) | (simp; omega)) _ | with_reducible refine bDrewN ?_ _ | with_reducible refine Below.drew ?_ | with_reducible refine Below.alloc ?_ (by first | omega | (simp; done) | (simp; omega)) _)) (h3.mono (by first | omega | (simp; done) | (simp; omega)))))
      all_goals
        have B4 : Below w.heap.size w w3 := HB.out.trans (B3.mono HB.out.size)
        go_wp2
        go_round
        case rel => exact ⟨k + 1, by omega, by go_num, (by repeat (first | with_reducible exact Below.refl _ _ | with_reducible exact B4 | with_reducible refine Below.setCell ?_ (by first | omega | (simp; done) | (simp; omega)) _ | with_reducible refine bDrewN ?_ _ | with_reducible refine Below.drew ?_ | with_reducible refine Below.alloc ?_ (by first | omega | (simp; done) | (simp; omega)) _))⟩
        case measure => simp [intOf]; omega
    · obtain rfl : k = n := by omega
      go_wp2
      go_ret
      exact ⟨rfl, (by repeat (first | with_reducible exact Below.refl _ _ | with_reducible exact hB | with_reducible refine Below.setCell ?_ (by first | omega | (simp; done) | (simp; omega)) _ | with_reducible refine bDrewN ?_ _ | with_reducible refine Below.drew ?_ | with_reducible refine Below.alloc ?_ (by first | omega | (simp; done) | (simp; omega)) _))⟩
end Go.Proofs.Ytlbbdifmjdpfiaa
