/-
What is proved: what orders decide, as the specification tells it.
-/
import Derived.Test.YtafifjodpgmiiaaDc
import Derived.Deep.RegionHeld3
import Derived.Deep.DeepCutAuto
namespace Go.Proofs.Ytafifjodpgmiiaa
set_option maxRecDepth 40000
open Go.ChangeShapes Go.WideShapes Go.ChangeAt Go.RowKit
set_option linter.unusedVariables false
set_option linter.unusedSimpArgs false

set_option maxRecDepth 20000 in
set_option maxHeartbeats 400000 in
theorem specDecide_far (s : Option Addr) (n c : Nat) (V : Nat → Int) (w : World) (hn : (50 : Int) < n) :
    Calls Try.prog 8 #[.slice s n c] w fun e w' => e = .returned (.int .i64 (decV V n)) ∧ w' = w := by
  have e : decV V n = 0 := if_neg (by omega)
  rw [e]
  go_enter Try.func8, Try.ntmps8
  go_wp2
  go_ret
  exact ⟨rfl, rfl⟩
set_option maxRecDepth 20000 in
set_option maxHeartbeats 4000000 in
theorem specDecide_near (s : Option Addr) (n c : Nat) (V : Nat → Int) (w : World) (hn : (n : Int) ≤ 50) (HR : Hid (RowI w s (n * 2) V)) :
    Calls Try.prog 8 #[.slice s n c] w fun e w' => e = .returned (.int .i64 (decV V n)) ∧ w' = w := by
  have e : decV V n = decG V n 9 := if_pos (by omega)
  rw [e]
  clear e
  go_enter Try.func8, Try.ntmps8
  go_wp2_with fail
  go_loop [3] (fun l => ∃ f : Nat, f ≤ 9 ∧ l = .int .i64 (10 - (f : Int)) ∧ Hid (decG V n 9 = decG V n f)) (fun l => (10 - intOf l).toNat)
  case atStart => exact ⟨9, Nat.le_refl _, rfl, rfl⟩
  case round =>
    obtain ⟨f, hf, rfl, HF⟩ := hrel
    cases f with
    | zero =>
      have hz : decG V n 9 = 0 := HF.out
      go_wp2
      go_ret
      exact ⟨by first | rfl | (rw [hz]; rfl), rfl⟩
    | succ f =>
      obtain ⟨l, hl⟩ : ∃ l : Int, l = 9 - (f : Int) := ⟨_, rfl⟩
      rw [show (10 - ((f + 1 : Nat) : Int)) = l from by omega]
      have l1 : 1 ≤ l := by omega
      have l2 : l ≤ 9 := by omega
      have HG : Hid (decG V n 9 = if wtL V l n ≠ 0 then wtL V l n else decG V n f) := by
        show _ = _
        rw [hl]
        exact HF.out
      have HE : Hid (l + 1 = 10 - (f : Int)) := by show _ = _; omega
      have hf9 : f ≤ 9 := by omega
      have hme : Hid ((10 - (l + 1)).toNat < (10 - l).toNat) := by show _ < _; omega
      clear HF hl hf
      go_wp2_with fail
      go_loop [4, 5] (fun q i => ∃ k : Nat, k ≤ n ∧ i = .int .i64 k ∧ q = .int .i64 (wtL V l k)) (fun _ i => n - (intOf i).toNat)
      case atStart => exact ⟨0, Nat.zero_le _, rfl, rfl⟩
      case round =>
        obtain ⟨k, hk, rfl, rfl⟩ := hrel
        by_cases h1 : k < n
        case neg =>
          obtain rfl : k = n := by omega
          have HG2 := HG.out
          obtain ⟨q, hq⟩ : ∃ q, wtL V l k = q := ⟨_, rfl⟩
          rw [hq] at HG2 ⊢
          clear hq
          by_cases hz : q = 0
          · subst hz
            have HG3 : Hid (decG V k 9 = decG V k f) := by
              show _ = _
              rw [HG2]
              simp
            clear HG2 HG
            go_wp2
            go_round
            case rel => exact ⟨f, hf9, by rw [HE.out], HG3⟩
            case measure => exact hme.out
          · have z1 : (q != 0) = true := by simpa using hz
            have z2 : (q == 0) = false := by simpa using hz
            have HG3 : Hid (decG V k 9 = q) := by
              show _ = _
              rw [HG2, if_pos hz]
            clear HG2 HG hz
            go_wp2
            go_ret
            exact ⟨by rw [HG3.out]; rfl, rfl⟩
        case pos =>
          obtain ⟨g, o, rfl, hg, c0⟩ := HR.out (k * 2) (by omega)
          obtain ⟨g', o', e', hg', c1⟩ := HR.out (k * 2 + 1) (by omega)
          cases e'
          have d1 : w.cell? ⟨g, o + k * 2 + 1, none⟩ = some (.int .i64 (V (k * 2 + 1))) := c1
          have k1 : (k : Int) < (n : Int) := by omega
          have HS : Hid (wtL V l (k + 1) = wtS (wtL V l k) (V (k * 2)) (V (k * 2 + 1)) l) := rfl
          have R3 := wtL_rng V l k
          obtain ⟨q, hq⟩ : ∃ q, wtL V l k = q := ⟨_, rfl⟩
          obtain ⟨x, hx⟩ : ∃ x, V (k * 2) = x := ⟨_, rfl⟩
          obtain ⟨y, hy⟩ : ∃ y, V (k * 2 + 1) = y := ⟨_, rfl⟩
          rw [hq, hx, hy] at HS
          rw [hq] at R3 ⊢
          rw [hx] at c0
          rw [hy] at d1
          clear hq hx hy c1 hg hg' HG
          replace HS := HS.out
          unfold wtS at HS
          by_cases ex : x = l
          case neg =>
            have x1 : (x != l) = true := by simpa using ex
            rw [if_neg ex] at HS
            have HSH : Hid (wtL V l (k + 1) = q) := HS
            clear HS ex
            go_wp2
            go_round
            case rel => exact ⟨k + 1, by omega, by go_num, by rw [HSH.out]⟩
            case measure => simp [intOf]; omega
          subst ex
          rw [if_pos rfl] at HS
          by_cases ey : y = -1
          · subst ey
            have HSH : Hid (wtL V x (k + 1) = -1) := HS
            clear HS
            go_wp2
            go_round
            case rel => exact ⟨k + 1, by omega, by go_num, by rw [HSH.out]⟩
            case measure => simp [intOf]; omega
          have y1 : (y == -1) = false := by simpa using ey
          rw [if_neg ey] at HS
          by_cases ez : y = 1
          · subst ez
            by_cases eq : q = 0
            · subst eq
              have HSH : Hid (wtL V x (k + 1) = 1) := HS
              clear HS
              go_wp2
              go_round
              case rel => exact ⟨k + 1, by omega, by go_num, by rw [HSH.out]⟩
              case measure => simp [intOf]; omega
            · have q1 : (q == 0) = false := by simpa using eq
              rw [if_neg (fun h => eq h.2)] at HS
              have HSH : Hid (wtL V x (k + 1) = q) := HS
              clear HS
              go_wp2
              go_round
              case rel => exact ⟨k + 1, by omega, by go_num, by rw [HSH.out]⟩
              case measure => simp [intOf]; omega
          · have z1 : (y == 1) = false := by simpa using ez
            rw [if_neg (fun h => ez h.1)] at HS
            have HSH : Hid (wtL V x (k + 1) = q) := HS
            clear HS
            go_wp2
            go_round
            case rel => exact ⟨k + 1, by omega, by go_num, by rw [HSH.out]⟩
            case measure => simp [intOf]; omega
theorem specDecide_any (s : Option Addr) (n c : Nat) (V : Nat → Int) (w : World) (HR : Hid (RowI w s (n * 2) V)) :
    Calls Try.prog 8 #[.slice s n c] w fun e w' => e = .returned (.int .i64 (decV V n)) ∧ w' = w := by
  by_cases h : (n : Int) ≤ 50
  · exact specDecide_near s n c V w h HR
  · exact specDecide_far s n c V w (by omega)
end Go.Proofs.Ytafifjodpgmiiaa
