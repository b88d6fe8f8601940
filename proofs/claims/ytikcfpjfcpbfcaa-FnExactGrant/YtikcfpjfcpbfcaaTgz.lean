/-
What is proved: tags in numbers, and as the specification counts them.
-/
import Derived.Test.YtikcfpjfcpbfcaaBoS
import Derived.Test.YtikcfpjfcpbfcaaQhB
namespace Go.Proofs.Ytikcfpjfcpbfcaa
set_option maxRecDepth 40000
open Go.ChangeShapes Go.WideShapes Go.ChangeAt Go.RowKit
set_option linter.unusedVariables false
set_option linter.unusedSimpArgs false

def cntP (K : Nat → Nat) (V : Nat → Nat → Int) : Nat → Nat → Int
  | 0, _ => 0
  | j + 1, v => cntP K V j v + (if hasB (V j) (K j) (v : Int) = true then 1 else 0)
theorem cntP_in (K : Nat → Nat) (V : Nat → Nat → Int) (j v : Nat) : 0 ≤ cntP K V j v ∧ cntP K V j v ≤ j := by
  induction j with
  | zero => exact ⟨Int.le_refl _, Int.le_refl _⟩
  | succ j ih => unfold cntP; split <;> omega
def tgI (K : Nat → Nat) (V : Nat → Nat → Int) (j r v : Nat) : Int := cntP K V j v + (if hasB (V j) r (v : Int) = true then 1 else 0)
theorem has_succ {U : Nat → Int} {r : Nat} {x : Int} (h : U r ≠ x) : hasB U (r + 1) x = hasB U r x := by
  unfold hasB
  have : (∃ j, j < r + 1 ∧ U j = x) ↔ ∃ j, j < r ∧ U j = x := ⟨fun ⟨j, h1, h2⟩ => ⟨j, by
    by_cases e : j = r
    · subst e; exact absurd h2 h
    · omega, h2⟩, fun ⟨j, h1, h2⟩ => ⟨j, by omega, h2⟩⟩
  simp only [this]
theorem tg_step {K : Nat → Nat} {V : Nat → Nat → Int} {j r x : Nat} {l : Nat} (hr : risB (V j) l = true) (hl : r < l) (hx : V j r = (x : Int)) (v : Nat) : tgI K V j (r + 1) v = (if v = x then tgI K V j r x + 1 else tgI K V j r v) := by
  unfold tgI
  by_cases e : v = x
  · subst e
    rw [if_pos rfl]
    have h1 : hasB (V j) (r + 1) (v : Int) = true := decide_eq_true ⟨r, by omega, hx⟩
    have h2 : hasB (V j) r (v : Int) = false := by rw [← hx]; exact ris_has hr hl
    rw [h1, h2]; simp
  · rw [if_neg e, has_succ (by rw [hx]; omega)]
theorem tg_end (K : Nat → Nat) (V : Nat → Nat → Int) (j v : Nat) : tgI K V j (K j) v = cntP K V (j + 1) v := rfl
theorem tg_start (K : Nat → Nat) (V : Nat → Nat → Int) (j v : Nat) : tgI K V j 0 v = cntP K V j v := by
  unfold tgI
  have : hasB (V j) 0 (v : Int) = false := decide_eq_false fun ⟨i, h, _⟩ => by omega
  rw [this]; simp
set_option maxRecDepth 20000 in
set_option maxHeartbeats 2000000 in
theorem l22Has_any (s : Option Addr) (k e : Nat) (U : Nat → Int) (x : Int) (w : World) (hk : (k : Int) ≤ 1048576) (HU : Hid (RowI w s k U)) :
    Calls Try.prog 97 #[.slice s k e, .int .i64 x] w fun e w' => e = .returned (.bool (hasB U k x)) ∧ w' = w := by
  go_enter Try.func97, Try.ntmps97
  go_wp2_with fail
  go_loopw [5] (fun i wr => ∃ j : Nat, j ≤ k ∧ i = .int .i64 j ∧ Hid (∀ r, r < j → U r ≠ x) ∧ wr = w) (fun i _ => k - (intOf i).toNat)
  case atStart => exact ⟨0, Nat.zero_le _, rfl, fun r hr => by omega, rfl⟩
  case round =>
    obtain ⟨j, hj, rfl, HP, rfl⟩ := hrel
    by_cases h1 : j < k
    · obtain ⟨g, o, rfl, hg, c0⟩ := HU.out j h1
      have j1 : (j : Int) < (k : Int) := by omega
      by_cases e0 : U j = x
      · have HO : Hid (hasB U k x = true) := decide_eq_true ⟨j, h1, e0⟩
        obtain ⟨z, hz⟩ : ∃ z, U j = z := ⟨_, rfl⟩
        have e1 : (z == x) = true := by rw [← hz]; simpa using e0
        rw [hz] at c0
        clear e0 hz
        go_wp2
        go_ret
        exact ⟨ret_bool HO.out.symm, rfl⟩
      · have HN : Hid (∀ r, r < j + 1 → U r ≠ x) := ball_succ HP.out e0
        obtain ⟨z, hz⟩ : ∃ z, U j = z := ⟨_, rfl⟩
        have e1 : (z == x) = false := by rw [← hz]; simpa using e0
        rw [hz] at c0
        clear e0 hz
        go_wp2
        go_roundw
        case rel => exact ⟨j + 1, by omega, by go_num, HN.out, by first | rfl | trivial⟩
        case measure => first | (simp [intOf]; done) | (simp [intOf]; omega)
    · obtain rfl : j = k := by omega
      have HO : Hid (hasB U j x = false) := decide_eq_false fun ⟨i, h, e⟩ => HP.out i h e
      go_wp2
      go_ret
      exact ⟨ret_bool HO.out.symm, rfl⟩
set_option maxRecDepth 20000 in
set_option maxHeartbeats 2000000 in
theorem l22Tags_any (bs : Option Addr) (nb bc : Nat) (X Y : Nat → Int) (K : Nat → Nat) (V : Nat → Nat → Int) (v : Nat) (w : World) (hb : (nb : Int) ≤ 20) (hK : Hid (∀ i, i < nb → (K i : Int) ≤ 1048576)) (HB : Hid (RowPer w bs nb X Y K V)) :
    Calls Try.prog 62 #[.agg #[.slice bs nb bc], .int .i64 (v : Int)] w fun e w' => e = .returned (.int .i64 (cntP K V nb v)) ∧ Below w.heap.size w w' := by
  go_enter Try.func62, Try.ntmps62
  go_wp2_with fail
  go_loopw [5, 6] (fun q i wr => ∃ k : Nat, k ≤ nb ∧ i = .int .i64 k ∧ q = .int .i64 (cntP K V k v) ∧ wr = w.alloc (.cells #[.slice bs nb bc] 36)) (fun _ i _ => nb - (intOf i).toNat)
  case atStart => exact ⟨0, Nat.zero_le _, rfl, rfl, rfl⟩
  case round =>
    obtain ⟨k, hk, rfl, rfl, rfl⟩ := hrel
    have cb := cntP_in K V k v
    by_cases h1 : k < nb
    · obtain ⟨g, o, a, e, rfl, hg, c0, c1, c2, hr⟩ := HB.out k h1
      have d2 : (w.alloc (.cells #[.slice (some ⟨g, o, none⟩) nb bc] 36)).cell? ⟨g, o + k * 3 + 2, none⟩ = some (.slice a (K k) e) := ((below0 w _).cell (p := ⟨g, o + k * 3 + 2, none⟩) hg).trans c2
      have zg : g < (w.alloc (.cells #[.slice (some ⟨g, o, none⟩) nb bc] 36)).heap.size := by simp; omega
      have k1 : (k : Int) < (nb : Int) := by omega
      have kk := hK.out k h1
      have HI : Hid (RowI w a (K k) (V k)) := hr
      have HS : Hid (cntP K V (k + 1) v = cntP K V k v + (if hasB (V k) (K k) (v : Int) = true then 1 else 0)) := rfl
      obtain ⟨q, hq⟩ : ∃ q, cntP K V k v = q := ⟨_, rfl⟩
      obtain ⟨l, hl⟩ : ∃ l, K k = l := ⟨_, rfl⟩
      rw [hq] at HS cb ⊢
      rw [hl] at d2 HI kk HS
      clear c0 c1 c2 hr hq hl
      go_wp2_with fail
      refine (l22Has_any a l e (V k) (v : Int) _ kk (HI.out.below (by repeat (first | with_reducible exact Below.refl _ _ | with_reducible refine Below.setCell ?_ (by first | omega | (simp; done) | (simp; omega)) _ | with_reducible refine bDrewN ?_ _ | with_reducible refine Below.drew ?_ | with_reducible refine Below.alloc ?_ (by first | omega | (simp; done) | (simp; omega)) _)))).mono ?_
      rintro e' w1 ⟨rfl, rfl⟩
      cases e0 : hasB (V k) l (v : Int)
      · have HN : Hid (cntP K V (k + 1) v = q) := by show _ = _; rw [HS.out, e0]; simp
        go_wp2
        go_roundw
        case rel => exact ⟨k + 1, by omega, by go_num, by rw [HN.out], by first | rfl | trivial⟩
        case measure => first | (simp [intOf]; done) | (simp [intOf]; omega)
      · have HN : Hid (cntP K V (k + 1) v = q + 1) := by show _ = _; rw [HS.out, e0]; simp
        go_wp2
        go_roundw
        case rel => exact ⟨k + 1, by omega, by go_num, by rw [HN.out], by first | rfl | trivial⟩
        case measure => first | (simp [intOf]; done) | (simp [intOf]; omega)
    · obtain rfl : k = nb := by omega
      go_wp2
      go_ret
      exact ⟨rfl, (by repeat (first | with_reducible exact Below.refl _ _ | with_reducible refine Below.setCell ?_ (by first | omega | (simp; done) | (simp; omega)) _ | with_reducible refine bDrewN ?_ _ | with_reducible refine Below.drew ?_ | with_reducible refine Below.alloc ?_ (by first | omega | (simp; done) | (simp; omega)) _))⟩
end Go.Proofs.Ytikcfpjfcpbfcaa
