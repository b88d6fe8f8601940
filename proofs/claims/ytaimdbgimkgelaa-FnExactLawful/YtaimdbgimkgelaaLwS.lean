/-
What is proved: whether a burner was lawful, as the specification tells it.
-/
import Derived.Test.YtaimdbgimkgelaaLw
import Derived.Deep.RegionHeld3
import Derived.Deep.DeepCutAuto
namespace Go.Proofs.Ytaimdbgimkgelaa
set_option maxRecDepth 40000
open Go.RowKit
set_option linter.unusedVariables false
set_option linter.unusedSimpArgs false

def dkB (V : Nat → Bool) (L j : Nat) : Bool := decide (∀ m, m < j → V ((L + m) * 4 + 3) = true ∧ (0 < m → V ((L + m) * 4 + 2) = false))
theorem dark_eq {V : Nat → Bool} {L : Nat} {f d : Bool} (hd : d = dkB V L 3) : (d && !f) = ((!f && eachB darkF V (L + 3) 2) && eachB openF V (L + 3) 3) := by
  have e1 : eachB darkF V (L + 3) 2 = decide (V ((L + 1) * 4 + 2) = false ∧ V ((L + 2) * 4 + 2) = false) := by
    by_cases q : V ((L + 1) * 4 + 2) = false ∧ V ((L + 2) * 4 + 2) = false
    · rw [decide_eq_true q]
      refine each_yes (by omega) fun k h1 h2 => ?_
      have : k = L + 1 ∨ k = L + 2 := by omega
      rcases this with rfl | rfl
      · simp [atB, darkF, q.1]
      · simp [atB, darkF, q.2]
    · rw [decide_eq_false q]
      by_cases q1 : V ((L + 1) * 4 + 2) = false
      · have q2 : V ((L + 2) * 4 + 2) = true := by cases h : V ((L + 2) * 4 + 2) <;> simp_all
        exact each_no (k := L + 2) (by omega) (by omega) (by simp [atB, darkF, q2])
      · have q2 : V ((L + 1) * 4 + 2) = true := by cases h : V ((L + 1) * 4 + 2) <;> simp_all
        exact each_no (k := L + 1) (by omega) (by omega) (by simp [atB, darkF, q2])
  have e2 : eachB openF V (L + 3) 3 = decide (V (L * 4 + 3) = true ∧ V ((L + 1) * 4 + 3) = true ∧ V ((L + 2) * 4 + 3) = true) := by
    by_cases q : V (L * 4 + 3) = true ∧ V ((L + 1) * 4 + 3) = true ∧ V ((L + 2) * 4 + 3) = true
    · rw [decide_eq_true q]
      refine each_yes (by omega) fun k h1 h2 => ?_
      have : k = L ∨ k = L + 1 ∨ k = L + 2 := by omega
      rcases this with rfl | rfl | rfl
      · exact q.1
      · exact q.2.1
      · exact q.2.2
    · rw [decide_eq_false q]
      by_cases q0 : V (L * 4 + 3) = true
      · by_cases q1 : V ((L + 1) * 4 + 3) = true
        · have q2 : V ((L + 2) * 4 + 3) = false := by cases h : V ((L + 2) * 4 + 3) <;> simp_all
          exact each_no (k := L + 2) (by omega) (by omega) q2
        · have q2 : V ((L + 1) * 4 + 3) = false := by cases h : V ((L + 1) * 4 + 3) <;> simp_all
          exact each_no (k := L + 1) (by omega) (by omega) q2
      · have q2 : V (L * 4 + 3) = false := by cases h : V (L * 4 + 3) <;> simp_all
        exact each_no (k := L) (by omega) (by omega) q2
  have e3 : dkB V L 3 = decide ((V (L * 4 + 3) = true ∧ V ((L + 1) * 4 + 3) = true ∧ V ((L + 2) * 4 + 3) = true) ∧ V ((L + 1) * 4 + 2) = false ∧ V ((L + 2) * 4 + 2) = false) := by
    unfold dkB
    rw [decide_eq_decide]
    constructor
    · intro h
      exact ⟨⟨(h 0 (by omega)).1, (h 1 (by omega)).1, (h 2 (by omega)).1⟩, (h 1 (by omega)).2 (by omega), (h 2 (by omega)).2 (by omega)⟩
    · rintro ⟨⟨a, b, c⟩, d, e⟩ m hm
      have : m = 0 ∨ m = 1 ∨ m = 2 := by omega
      rcases this with rfl | rfl | rfl
      · exact ⟨a, fun h => by omega⟩
      · exact ⟨b, fun _ => d⟩
      · exact ⟨c, fun _ => e⟩
  rw [hd, e1, e2, e3]
  cases f <;> simp
  · rw [Bool.eq_iff_iff]
    simp only [Bool.and_eq_true, decide_eq_true_iff]
    constructor
    · rintro ⟨⟨a, b, c⟩, d, e⟩; exact ⟨⟨d, e⟩, a, b, c⟩
    · rintro ⟨⟨d, e⟩, a, b, c⟩; exact ⟨⟨a, b, c⟩, d, e⟩
set_option maxRecDepth 20000 in
set_option maxHeartbeats 8000000 in
theorem l15Bad_any (s : Option Addr) (n c : Nat) (V : Nat → Bool) (i : Nat) (w : World) (hn : (n : Int) ≤ 1000) (hi : i < n) (HR : Hid (RowB w s (n * 4) V)) :
    Calls Try.prog 41 #[.slice s n c, .int .i64 (i : Int)] w fun e w' => e = .returned (.bool (badB V i)) ∧ w' = w := by
  have i1 : (i : Int) < (n : Int) := by omega
  have hB : Below w.heap.size w w := Below.refl _ _
  obtain ⟨g, o, rfl, hg, c0⟩ := HR.out (i * 4) (by omega)
  obtain ⟨g', o', e', hg1, c1⟩ := HR.out (i * 4 + 1) (by omega)
  cases e'
  obtain ⟨g', o', e', hg2, c2⟩ := HR.out (i * 4 + 2) (by omega)
  cases e'
  obtain ⟨g', o', e', hg3, c3⟩ := HR.out (i * 4 + 3) (by omega)
  cases e'
  have d0 : w.cell? ⟨g, o + i * 4, none⟩ = some (.bool (V (i * 4))) := (hB.cell (p := ⟨g, o + (i * 4), none⟩) hg).trans c0
  have d1 : w.cell? ⟨g, o + i * 4 + 1, none⟩ = some (.bool (V (i * 4 + 1))) := (hB.cell (p := ⟨g, o + (i * 4 + 1), none⟩) hg1).trans c1
  have d2 : w.cell? ⟨g, o + i * 4 + 2, none⟩ = some (.bool (V (i * 4 + 2))) := (hB.cell (p := ⟨g, o + (i * 4 + 2), none⟩) hg2).trans c2
  have d3 : w.cell? ⟨g, o + i * 4 + 3, none⟩ = some (.bool (V (i * 4 + 3))) := (hB.cell (p := ⟨g, o + (i * 4 + 3), none⟩) hg3).trans c3
  have zd : g < w.heap.size := Nat.lt_of_lt_of_le hg3 hB.size
  clear hB
  have HV : Hid (badB V i = (V (i * 4 + 3) && barB (V (i * 4)) (V (i * 4 + 1)) (V (i * 4 + 2)) V i)) := rfl
  obtain ⟨u0, hu0⟩ : ∃ u, V (i * 4) = u := ⟨_, rfl⟩
  obtain ⟨u1, hu1⟩ : ∃ u, V (i * 4 + 1) = u := ⟨_, rfl⟩
  obtain ⟨u2, hu2⟩ : ∃ u, V (i * 4 + 2) = u := ⟨_, rfl⟩
  obtain ⟨u3, hu3⟩ : ∃ u, V (i * 4 + 3) = u := ⟨_, rfl⟩
  rw [hu0] at d0 HV
  rw [hu1] at d1 HV
  rw [hu2] at d2 HV
  rw [hu3] at d3 HV
  clear c0 c1 c2 c3 hg1 hg2 hg3 hu0 hu1 hu2 hu3
  cases u3
  case false =>
    go_enter Try.func41, Try.ntmps41
    go_wp2
    go_ret
    exact ⟨ret_bool (HV.out.symm), rfl⟩
  cases u0
  case false =>
    go_enter Try.func41, Try.ntmps41
    go_wp2
    go_ret
    exact ⟨ret_bool (by rw [HV.out]; simp [barB]), rfl⟩
  cases u1
  case false =>
    go_enter Try.func41, Try.ntmps41
    go_wp2
    go_ret
    exact ⟨ret_bool (by rw [HV.out]; simp [barB]), rfl⟩
  have was : (i = 0 ∨ ∃ p, i = p + 1 ∧ V (p * 4 + 3) = false) ∨ ∃ p, i = p + 1 ∧ V (p * 4 + 3) = true := by
    rcases Nat.eq_zero_or_pos i with h | h
    · exact .inl (.inl h)
    · cases q : V ((i - 1) * 4 + 3)
      · exact .inl (.inr ⟨i - 1, by omega, q⟩)
      · exact .inr ⟨i - 1, by omega, q⟩
  rcases was with was | ⟨p, hp, hv⟩
  · rcases was with h0 | ⟨p, hp, hv⟩
    · subst h0
      have hz : eachB openF V 0 1 = false := each_short (by omega)
      have HO : Hid (badB V 0 = true) := show _ = _ by rw [HV.out]; simp [barB, hz, each_short (F := purgF) (V := V) (show 0 < 4 by omega)]
      clear hz
      simp only [Nat.zero_mul, Nat.add_zero] at d0 d1 d2 d3
      have i2 : (0 : Int) < (n : Int) := by omega
      go_enter Try.func41, Try.ntmps41
      go_wp2
      go_ret
      exact ⟨ret_bool HO.out.symm, rfl⟩
    · have hz : eachB openF V i 1 = false := by rw [hp, open_one]; exact hv
      have ez : ((i : Int) == 0) = false := by simp; omega
      have e1 : IntKind.i64.wrap ((i : Int) - 1) = (p : Int) := by rw [IntKind.wrap_i64]; omega
      have p1 : (p : Int) < (n : Int) := by omega
      obtain ⟨g', o', e', hgp, cp⟩ := HR.out (p * 4 + 3) (by omega)
      cases e'
      have dp : w.cell? ⟨g, o + p * 4 + 3, none⟩ = some (.bool false) := by rw [← hv]; exact cp
      clear cp hp hv
      have HO : Hid (badB V i = (u2 || !eachB purgF V i 4)) := show _ = _ by rw [HV.out]; simp [barB, hz]
      clear hz
      by_cases h4 : (i : Int) < 4
      case pos =>
        have HS : Hid (eachB purgF V i 4 = false) := each_short (by omega)
        go_enter Try.func41, Try.ntmps41
        go_wp2
        go_ret
        exact ⟨ret_bool (by rw [HO.out, HS.out]; simp), rfl⟩
      have b4 : decide ((i : Int) < 4) = false := decide_eq_false h4
      cases u2
      case true =>
        go_enter Try.func41, Try.ntmps41
        go_wp2
        go_ret
        exact ⟨ret_bool (by rw [HO.out]; simp), rfl⟩
      obtain ⟨L, hL⟩ : ∃ L : Nat, i = L + 4 := ⟨i - 4, by omega⟩
      have e5 : IntKind.i64.wrap ((i : Int) - 5) = (L : Int) - 1 := by rw [IntKind.wrap_i64]; omega
      have e6 : IntKind.i64.wrap ((L : Int) - 1 + 1) = (L : Int) := by rw [IntKind.wrap_i64]; omega
      have bL : (L : Int) ≤ 1000 := by omega
      have HL : Hid (i = L + 4) := hL
      clear hL
      go_enter Try.func41, Try.ntmps41
      go_wp2_with fail
      go_loop [5] (fun q => ∃ j : Nat, j ≤ 4 ∧ q = .int .i64 ((L + j : Nat) : Int) ∧ Hid (∀ k, k < j → atB purgF V (L + k) = true)) (fun q => i - (intOf q).toNat)
      case atStart => exact ⟨0, by omega, (by first | (simp; done) | go_num), fun k hk => by omega⟩
      case round =>
        obtain ⟨j, hj, rfl, HP⟩ := hrel
        have hL := HL.out
        by_cases h1 : j < 4
        · obtain ⟨K, hK⟩ : ∃ K : Nat, L + j = K := ⟨_, rfl⟩
          have HA : Hid (atB purgF V (L + j) = purgF (V (K * 4)) (V (K * 4 + 1)) (V (K * 4 + 2)) (V (K * 4 + 3))) := by rw [hK]; exact rfl
          have kk : K < i := by omega
          rw [hK]
          have HK : Hid (L + j = K) := hK
          have hB : Below w.heap.size w w := Below.refl _ _
          obtain ⟨g', o', e', hg0, c0⟩ := HR.out (K * 4) (by omega)
          cases e'
          obtain ⟨g', o', e', hg2, c2⟩ := HR.out (K * 4 + 2) (by omega)
          cases e'
          obtain ⟨g', o', e', hg3, c3⟩ := HR.out (K * 4 + 3) (by omega)
          cases e'
          have f0 : w.cell? ⟨g, o + K * 4, none⟩ = some (.bool (V (K * 4))) := (hB.cell (p := ⟨g, o + (K * 4), none⟩) hg0).trans c0
          have f2 : w.cell? ⟨g, o + K * 4 + 2, none⟩ = some (.bool (V (K * 4 + 2))) := (hB.cell (p := ⟨g, o + (K * 4 + 2), none⟩) hg2).trans c2
          have f3 : w.cell? ⟨g, o + K * 4 + 3, none⟩ = some (.bool (V (K * 4 + 3))) := (hB.cell (p := ⟨g, o + (K * 4 + 3), none⟩) hg3).trans c3
          have zf : g < w.heap.size := Nat.lt_of_lt_of_le hg3 hB.size
          clear hB hL hK c0 c2 c3
          have k1 : (K : Int) < (i : Int) := by omega
          have k2 : (K : Int) < (n : Int) := by omega
          have eK : IntKind.i64.wrap ((K : Int) + 1) = ((K + 1 : Nat) : Int) := by rw [IntKind.wrap_i64]; omega
          obtain ⟨v0, hv0⟩ : ∃ v, V (K * 4) = v := ⟨_, rfl⟩
          obtain ⟨v2, hv2⟩ : ∃ v, V (K * 4 + 2) = v := ⟨_, rfl⟩
          obtain ⟨v3, hv3⟩ : ∃ v, V (K * 4 + 3) = v := ⟨_, rfl⟩
          rw [hv0] at f0 HA
          rw [hv2] at f2 HA
          rw [hv3] at f3 HA
          clear hv0 hv2 hv3
          cases hq : purgF v0 (V (K * 4 + 1)) v2 v3
          · have HS : Hid (eachB purgF V i 4 = false) := each_no (k := L + j) (by have := HL.out; omega) (by have := HL.out; omega) (by rw [HA.out]; exact hq)
            cases v0
            case false =>
              go_wp2
              go_ret
              exact ⟨ret_bool (by rw [HO.out, HS.out]; rfl), rfl⟩
            cases v2
            case true =>
              go_wp2
              go_ret
              exact ⟨ret_bool (by rw [HO.out, HS.out]; rfl), rfl⟩
            cases v3
            case true =>
              go_wp2
              go_ret
              exact ⟨ret_bool (by rw [HO.out, HS.out]; rfl), rfl⟩
            cases hq
          · have HT : Hid (atB purgF V (L + j) = true) := HA.out.trans hq
            simp only [purgF, Bool.and_eq_true, Bool.not_eq_true'] at hq
            obtain ⟨rfl, rfl, rfl⟩ := hq
            go_wp2
            go_round
            case rel => exact ⟨j + 1, by omega, (by have := HK.out; first | (rw [show L + (j + 1) = K + 1 by omega]; done) | (rw [show L + (j + 1) = K + 1 by omega]; rfl) | (congr 1; omega)), ballB HP.out HT.out⟩
            case measure => have := HK.out; simp [intOf]; omega
        · obtain rfl : j = 4 := by omega
          rw [← hL]
          have HS : Hid (eachB purgF V i 4 = true) := each_yes (by omega) fun k h2 h3 => by
            obtain ⟨d, rfl⟩ : ∃ d, k = L + d := ⟨k - L, by omega⟩
            exact HP.out d (by omega)
          clear hL
          go_wp2
          go_ret
          exact ⟨ret_bool (by rw [HO.out, HS.out]; rfl), rfl⟩
  · have hz : eachB openF V i 1 = true := by rw [hp, open_one]; exact hv
    have ez : ((i : Int) == 0) = false := by simp; omega
    have e1 : IntKind.i64.wrap ((i : Int) - 1) = (p : Int) := by rw [IntKind.wrap_i64]; omega
    have p1 : (p : Int) < (n : Int) := by omega
    obtain ⟨g', o', e', hgp, cp⟩ := HR.out (p * 4 + 3) (by omega)
    cases e'
    have dp : w.cell? ⟨g, o + p * 4 + 3, none⟩ = some (.bool true) := by rw [← hv]; exact cp
    have HO : Hid (badB V i = ((!u2 && eachB darkF V i 2) && eachB openF V i 3)) := show _ = _ by rw [HV.out]; simp [barB, hz]
    clear cp hp hv hz
    by_cases h3 : (i : Int) < 3
    case pos =>
      have HS : Hid (eachB openF V i 3 = false) := each_short (by omega)
      go_enter Try.func41, Try.ntmps41
      go_wp2
      go_ret
      exact ⟨ret_bool (by rw [HO.out, HS.out]; simp), rfl⟩
    have b3 : decide ((i : Int) < 3) = false := decide_eq_false h3
    obtain ⟨L, hL⟩ : ∃ L : Nat, i = L + 3 := ⟨i - 3, by omega⟩
    have e3 : IntKind.i64.wrap ((i : Int) - 3) = (L : Int) := by rw [IntKind.wrap_i64]; omega
    have bL : (L : Int) ≤ 1000 := by omega
    have HL : Hid (i = L + 3) := hL
    clear hL
    go_enter Try.func41, Try.ntmps41
    go_wp2_with fail
    go_loop [6, 7] (fun dk q => ∃ j : Nat, j ≤ 3 ∧ q = .int .i64 ((L + j : Nat) : Int) ∧ dk = .bool (dkB V L j)) (fun _ q => i - (intOf q).toNat)
    case atStart => exact ⟨0, by omega, (by first | (simp; done) | go_num), by simp [dkB]⟩
    case round =>
      obtain ⟨j, hj, rfl, rfl⟩ := hrel
      have hL := HL.out
      by_cases h1 : j < 3
      · obtain ⟨K, hK⟩ : ∃ K : Nat, L + j = K := ⟨_, rfl⟩
        have kk : K < i := by omega
        rw [hK]
        have HK : Hid (L + j = K) := hK
        have HD : Hid (dkB V L (j + 1) = (dkB V L j && (V (K * 4 + 3) && (decide (K ≤ L) || !V (K * 4 + 2))))) := by
          show _ = _
          unfold dkB
          rw [Bool.eq_iff_iff]
          simp only [Bool.and_eq_true, Bool.or_eq_true, decide_eq_true_iff, Bool.not_eq_true']
          constructor
          · intro h
            refine ⟨fun m hm => h m (by omega), ?_, ?_⟩
            · have := (h j (by omega)).1; rw [hK] at this; exact this
            · by_cases q : j = 0
              · left; omega
              · right; have := (h j (by omega)).2 (by omega); rw [hK] at this; exact this
          · rintro ⟨h, h2, h4⟩ m hm
            by_cases q : m = j
            · subst q
              rw [hK]
              refine ⟨h2, fun h5 => ?_⟩
              rcases h4 with h4 | h4
              · omega
              · exact h4
            · exact h m (by omega)
        obtain ⟨dk, hdk⟩ : ∃ dk, dkB V L j = dk := ⟨_, rfl⟩
        rw [hdk] at HD ⊢
        clear hdk
        have hB : Below w.heap.size w w := Below.refl _ _
        obtain ⟨g', o', e', hg2, c2⟩ := HR.out (K * 4 + 2) (by omega)
        cases e'
        obtain ⟨g', o', e', hg3, c3⟩ := HR.out (K * 4 + 3) (by omega)
        cases e'
        have f2 : w.cell? ⟨g, o + K * 4 + 2, none⟩ = some (.bool (V (K * 4 + 2))) := (hB.cell (p := ⟨g, o + (K * 4 + 2), none⟩) hg2).trans c2
        have f3 : w.cell? ⟨g, o + K * 4 + 3, none⟩ = some (.bool (V (K * 4 + 3))) := (hB.cell (p := ⟨g, o + (K * 4 + 3), none⟩) hg3).trans c3
        have zf : g < w.heap.size := Nat.lt_of_lt_of_le hg3 hB.size
        clear hB hL hK c2 c3
        have k1 : (K : Int) < (i : Int) := by omega
        have k2 : (K : Int) < (n : Int) := by omega
        have eK : IntKind.i64.wrap ((K : Int) + 1) = ((K + 1 : Nat) : Int) := by rw [IntKind.wrap_i64]; omega
        obtain ⟨v2, hv2⟩ : ∃ v, V (K * 4 + 2) = v := ⟨_, rfl⟩
        obtain ⟨v3, hv3⟩ : ∃ v, V (K * 4 + 3) = v := ⟨_, rfl⟩
        rw [hv2] at f2 HD
        rw [hv3] at f3 HD
        clear hv2 hv3
        cases v3
        case false =>
          go_wp2
          go_round
          case rel => exact ⟨j + 1, by omega, (by have := HK.out; first | (rw [show L + (j + 1) = K + 1 by omega]; done) | (rw [show L + (j + 1) = K + 1 by omega]; rfl) | (congr 1; omega)), by rw [HD.out]; simp⟩
          case measure => have := HK.out; simp [intOf]; omega
        by_cases q : (L : Int) < (K : Int)
        case neg =>
          have bq : decide ((L : Int) < (K : Int)) = false := decide_eq_false q
          have bK : decide (K ≤ L) = true := decide_eq_true (by omega)
          rw [bK] at HD
          clear bK
          go_wp2
          go_round
          case rel => exact ⟨j + 1, by omega, (by have := HK.out; first | (rw [show L + (j + 1) = K + 1 by omega]; done) | (rw [show L + (j + 1) = K + 1 by omega]; rfl) | (congr 1; omega)), by rw [HD.out]; simp⟩
          case measure => have := HK.out; simp [intOf]; omega
        have bK : decide (K ≤ L) = false := decide_eq_false (by omega)
        rw [bK] at HD
        clear bK
        cases v2
        all_goals
          go_wp2
          go_round
          case rel => exact ⟨j + 1, by omega, (by have := HK.out; first | (rw [show L + (j + 1) = K + 1 by omega]; done) | (rw [show L + (j + 1) = K + 1 by omega]; rfl) | (congr 1; omega)), by rw [HD.out]; simp⟩
          case measure => have := HK.out; simp [intOf]; omega
      · obtain rfl : j = 3 := by omega
        rw [← hL]
        obtain ⟨dk, hdk⟩ : ∃ dk, dkB V L 3 = dk := ⟨_, rfl⟩
        have HE : Hid ((dk && !u2) = ((!u2 && eachB darkF V i 2) && eachB openF V i 3)) := by
          show _ = _
          rw [hL]
          exact dark_eq hdk.symm
        rw [hdk]
        clear hdk hL
        cases dk
        · go_wp2
          go_ret
          exact ⟨ret_bool (by rw [HO.out, ← HE.out]; rfl), rfl⟩
        · go_wp2
          go_ret
          exact ⟨ret_bool (by rw [HO.out, ← HE.out]; rfl), rfl⟩
set_option maxRecDepth 20000 in
set_option maxHeartbeats 8000000 in
theorem specLawful_any (s : Option Addr) (n c : Nat) (V : Nat → Bool) (w : World) (hn : (n : Int) ≤ 1048576) (HR : Hid (RowB w s (n * 4) V)) :
    Calls Try.prog 27 #[.slice s n c] w fun e w' => ∃ x, LawV n V x ∧ e = .returned (.int .i64 x) ∧ Below w.heap.size w w' := by
  by_cases hf : (n : Int) ≤ 1000
  case neg =>
    have b0 : (0 : Int) < (n : Int) := by omega
    have b1 : decide ((n : Int) ≤ 1000) = false := decide_eq_false hf
    go_enter Try.func27, Try.ntmps27
    go_wp2_with fail
    go_loop [3] (fun q => q = .int .i64 0) (fun q => 0)
    case atStart => rfl
    case round =>
      obtain rfl := hrel
      go_wp2
      go_ret
      exact ⟨-1, .inl ⟨by omega, rfl⟩, rfl, Below.refl _ _⟩
  go_enter Try.func27, Try.ntmps27
  go_wp2_with fail
  go_loop [3] (fun i => ∃ k : Nat, k ≤ n ∧ i = .int .i64 k ∧ Hid (∀ j, j < k → badB V j = false)) (fun i => n - (intOf i).toNat)
  case atStart => exact ⟨0, Nat.zero_le _, rfl, fun j hj => by omega⟩
  case round =>
    obtain ⟨k, hk, rfl, HP⟩ := hrel
    by_cases h1 : k < n
    · have k1 : (k : Int) < (n : Int) := by omega
      go_wp2_with fail
      refine (l15Bad_any s n c V k _ hf h1 HR).mono ?_
      rintro e w2 ⟨rfl, rfl⟩
      cases q : badB V k
      · have HK : Hid (badB V k = false) := q
        go_wp2
        go_round
        case rel => exact ⟨k + 1, by omega, by go_num, ballB HP.out HK.out⟩
        case measure => simp [intOf]; omega
      · have HL : Hid (LawV n V k) := .inr ⟨by omega, .inr ⟨k, h1, rfl, q, HP.out⟩⟩
        go_wp2
        go_ret
        exact ⟨k, HL.out, rfl, Below.refl _ _⟩
    · obtain rfl : k = n := by omega
      have HL : Hid (LawV k V (-1)) := .inr ⟨by omega, .inl ⟨rfl, HP.out⟩⟩
      have b0 : decide ((k : Int) < (k : Int)) = false := decide_eq_false (by omega)
      go_wp2
      go_ret
      exact ⟨-1, HL.out, rfl, Below.refl _ _⟩
end Go.Proofs.Ytaimdbgimkgelaa
