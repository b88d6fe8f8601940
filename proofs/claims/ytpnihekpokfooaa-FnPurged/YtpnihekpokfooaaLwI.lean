/-
What is proved: whether a burner was lawful, as the program tells it.
-/
import Derived.Test.YtpnihekpokfooaaLw
import Derived.Deep.RegionHeld3
import Derived.Deep.DeepCutAuto
namespace Go.Proofs.Ytpnihekpokfooaa
set_option maxRecDepth 40000
open Go.RowKit
set_option linter.unusedVariables false
set_option linter.unusedSimpArgs false

set_option maxHeartbeats 800000 in
theorem isOpen_any (a g f v : Bool) (w : World) : Calls Try.prog 74 #[.agg #[.bool a, .bool g, .bool f, .bool v]] w fun e w' => e = .returned (.bool (openF a g f v)) ∧ Below w.heap.size w w' := by
  go_enter Try.func74, Try.ntmps74
  go_wp2
  go_ret
  exact ⟨rfl, (by repeat (first | with_reducible exact Below.refl _ _ | with_reducible refine Below.setCell ?_ (by first | omega | (simp; done) | (simp; omega)) _ | with_reducible refine bDrewN ?_ _ | with_reducible refine Below.drew ?_ | with_reducible refine Below.alloc ?_ (by first | omega | (simp; done) | (simp; omega)) _))⟩
set_option maxHeartbeats 800000 in
theorem isDark_any (a g f v : Bool) (w : World) : Calls Try.prog 76 #[.agg #[.bool a, .bool g, .bool f, .bool v]] w fun e w' => e = .returned (.bool (darkF a g f v)) ∧ Below w.heap.size w w' := by
  go_enter Try.func76, Try.ntmps76
  go_wp2
  go_ret
  exact ⟨rfl, (by repeat (first | with_reducible exact Below.refl _ _ | with_reducible refine Below.setCell ?_ (by first | omega | (simp; done) | (simp; omega)) _ | with_reducible refine bDrewN ?_ _ | with_reducible refine Below.drew ?_ | with_reducible refine Below.alloc ?_ (by first | omega | (simp; done) | (simp; omega)) _))⟩
set_option maxHeartbeats 1600000 in
theorem isPurging_any (a g f v : Bool) (w : World) : Calls Try.prog 75 #[.agg #[.bool a, .bool g, .bool f, .bool v]] w fun e w' => e = .returned (.bool (purgF a g f v)) ∧ Below w.heap.size w w' := by
  cases a
  all_goals
    cases f
  all_goals
    go_enter Try.func75, Try.ntmps75
    go_wp2
    go_ret
    exact ⟨rfl, (by repeat (first | with_reducible exact Below.refl _ _ | with_reducible refine Below.setCell ?_ (by first | omega | (simp; done) | (simp; omega)) _ | with_reducible refine bDrewN ?_ _ | with_reducible refine Below.drew ?_ | with_reducible refine Below.alloc ?_ (by first | omega | (simp; done) | (simp; omega)) _))⟩
set_option maxRecDepth 20000 in
set_option maxHeartbeats 4000000 in
theorem eachOfLast_any (q : FuncId) (F : Bool → Bool → Bool → Bool → Bool) (s : Option Addr) (n c : Nat) (V : Nat → Bool) (m : Int) (M : Nat) (w : World) (hM : m = M) (hM0 : 1 ≤ M) (hM1 : M ≤ 4) (hn : (n : Int) ≤ 1000) (hc : n ≤ c) (HR : Hid (RowB w s (n * 4) V))
    (ew : ∀ x w, Sem.run Try.prog (callFunc q x) w = .ok (.enter q x) w) (HF : Hid (∀ a g f v w, Calls Try.prog q #[.agg #[.bool a, .bool g, .bool f, .bool v]] w fun e w' => e = .returned (.bool (F a g f v)) ∧ Below w.heap.size w w')) :
    Calls Try.prog 73 #[.slice s n c, .int .i64 m, .func (.func q) #[] #[]] w fun e w' => e = .returned (.bool (eachB F V n M)) ∧ Below w.heap.size w w' := by
  subst hM
  have m4 : (M : Int) ≤ 4 := by omega
  have m1 : (1 : Int) ≤ (M : Int) := by omega
  by_cases hs : n < M
  · have HO : Hid (eachB F V n M = false) := each_short hs
    have b1 : (n : Int) < (M : Int) := by omega
    go_enter Try.func73, Try.ntmps73
    go_wp2
    go_ret
    exact ⟨ret_bool HO.out.symm, (by repeat (first | with_reducible exact Below.refl _ _ | with_reducible refine Below.setCell ?_ (by first | omega | (simp; done) | (simp; omega)) _ | with_reducible refine bDrewN ?_ _ | with_reducible refine Below.drew ?_ | with_reducible refine Below.alloc ?_ (by first | omega | (simp; done) | (simp; omega)) _))⟩
  obtain ⟨L, hL⟩ : ∃ L : Nat, n = L + M := ⟨n - M, by omega⟩
  have e1 : IntKind.i64.wrap ((n : Int) - (M : Int)) = (L : Int) := by rw [IntKind.wrap_i64]; omega
  have b0 : (0 : Int) ≤ (L : Int) := by omega
  have b1 : (L : Int) ≤ (n : Int) := by omega
  have b2 : (n : Int) ≤ (c : Int) := by omega
  have b3 : decide ((n : Int) < (M : Int)) = false := decide_eq_false (by omega)
  have b4 : ¬ (n : Int) < (M : Int) := by omega
  obtain ⟨b, o, rfl, hg, -⟩ := HR.out 0 (by omega)
  have eM : n - L = M := by omega
  have HL : Hid (n = L + M) := hL
  clear hL
  go_enter Try.func73, Try.ntmps73
  go_wp2_with fail
  go_loopw [20] (fun i wr => ∃ j : Nat, j ≤ M ∧ i = .int .i64 j ∧ Hid (∀ k, k < j → atB F V (L + k) = true) ∧ Hid (Below w.heap.size w wr)) (fun i _ => M - (intOf i).toNat)
  case atStart => exact ⟨0, Nat.zero_le _, rfl, fun k hk => by omega, Below.refl _ _⟩
  case round =>
    obtain ⟨j, hj, rfl, HP, HB⟩ := hrel
    have hL := HL.out
    by_cases h1 : j < M
    · have hB := HB.out
      obtain ⟨g', o', e', hg0, c0⟩ := HR.out ((L + j) * 4) (by omega)
      cases e'
      obtain ⟨g', o', e', hg1, c1⟩ := HR.out ((L + j) * 4 + 1) (by omega)
      cases e'
      obtain ⟨g', o', e', hg2, c2⟩ := HR.out ((L + j) * 4 + 2) (by omega)
      cases e'
      obtain ⟨g', o', e', hg3, c3⟩ := HR.out ((L + j) * 4 + 3) (by omega)
      cases e'
      have d0 : wr.cell? ⟨b, o + L * 4 + j * 4, none⟩ = some (.bool (V ((L + j) * 4))) := by rw [show o + L * 4 + j * 4 = o + ((L + j) * 4) by omega]; exact (hB.cell (p := ⟨b, o + ((L + j) * 4), none⟩) hg0).trans c0
      have d1 : wr.cell? ⟨b, o + L * 4 + j * 4 + 1, none⟩ = some (.bool (V ((L + j) * 4 + 1))) := by rw [show o + L * 4 + j * 4 + 1 = o + ((L + j) * 4 + 1) by omega]; exact (hB.cell (p := ⟨b, o + ((L + j) * 4 + 1), none⟩) hg1).trans c1
      have d2 : wr.cell? ⟨b, o + L * 4 + j * 4 + 2, none⟩ = some (.bool (V ((L + j) * 4 + 2))) := by rw [show o + L * 4 + j * 4 + 2 = o + ((L + j) * 4 + 2) by omega]; exact (hB.cell (p := ⟨b, o + ((L + j) * 4 + 2), none⟩) hg2).trans c2
      have d3 : wr.cell? ⟨b, o + L * 4 + j * 4 + 3, none⟩ = some (.bool (V ((L + j) * 4 + 3))) := by rw [show o + L * 4 + j * 4 + 3 = o + ((L + j) * 4 + 3) by omega]; exact (hB.cell (p := ⟨b, o + ((L + j) * 4 + 3), none⟩) hg3).trans c3
      have zb : b < wr.heap.size := Nat.lt_of_lt_of_le hg0 hB.size
      have k1 : (j : Int) < (M : Int) := by omega
      have HA : Hid (atB F V (L + j) = F (V ((L + j) * 4)) (V ((L + j) * 4 + 1)) (V ((L + j) * 4 + 2)) (V ((L + j) * 4 + 3))) := rfl
      obtain ⟨u0, hu0⟩ : ∃ u, V ((L + j) * 4) = u := ⟨_, rfl⟩
      obtain ⟨u1, hu1⟩ : ∃ u, V ((L + j) * 4 + 1) = u := ⟨_, rfl⟩
      obtain ⟨u2, hu2⟩ : ∃ u, V ((L + j) * 4 + 2) = u := ⟨_, rfl⟩
      obtain ⟨u3, hu3⟩ : ∃ u, V ((L + j) * 4 + 3) = u := ⟨_, rfl⟩
      rw [hu0] at d0 HA
      rw [hu1] at d1 HA
      rw [hu2] at d2 HA
      rw [hu3] at d3 HA
      clear hL hB c0 c1 c2 c3 hg0 hg1 hg2 hg3 hu0 hu1 hu2 hu3
      go_wp2_with fail
      refine (HF.out u0 u1 u2 u3 _).mono ?_
      rintro e w2 ⟨rfl, h2⟩
      have B2 : Hid (Below w.heap.size w w2) := HB.out.trans (Below.mono (Below.trans (by repeat (first | with_reducible exact Below.refl _ _ | with_reducible refine Below.setCell ?_ (by first | omega | (simp; done) | (simp; omega)) _ | with_reducible refine bDrewN ?_ _ | with_reducible refine Below.drew ?_ | with_reducible refine Below.alloc ?_ (by first | omega | (simp; done) | (simp; omega)) _)) (h2.mono (by first | omega | (simp; done) | (simp; omega)))) HB.out.size)
      clear h2
      cases hq : F u0 u1 u2 u3
      · have HO : Hid (eachB F V n M = false) := each_no (k := L + j) (by have := HL.out; omega) (by have := HL.out; omega) (by rw [HA.out]; exact hq)
        have BF := B2.out
        go_wp2
        go_ret
        exact ⟨ret_bool HO.out.symm, BF⟩
      · have HK : Hid (atB F V (L + j) = true) := HA.out.trans hq
        go_wp2
        go_roundw
        case rel => exact ⟨j + 1, by omega, by go_num, ballB HP.out HK.out, B2.out⟩
        case measure => simp [intOf]; omega
    · obtain rfl : j = M := by omega
      have HO : Hid (eachB F V n j = true) := each_yes (by omega) fun k h2 h3 => by
        obtain ⟨d, rfl⟩ : ∃ d, k = L + d := ⟨k - L, by omega⟩
        exact HP.out d (by omega)
      have BF := HB.out
      go_wp2
      go_ret
      exact ⟨ret_bool HO.out.symm, BF⟩
theorem enter_open (x : Array Value) (w : World) : Sem.run Try.prog (callFunc 74 x) w = .ok (.enter 74 x) w := by kernel_rfl
theorem enter_dark (x : Array Value) (w : World) : Sem.run Try.prog (callFunc 76 x) w = .ok (.enter 76 x) w := by kernel_rfl
theorem enter_purg (x : Array Value) (w : World) : Sem.run Try.prog (callFunc 75 x) w = .ok (.enter 75 x) w := by kernel_rfl
set_option maxRecDepth 20000 in
set_option maxHeartbeats 8000000 in
theorem barred_any (a g f v : Bool) (s : Option Addr) (i c : Nat) (V : Nat → Bool) (w : World) (hi : (i : Int) ≤ 1000) (hc : i ≤ c) (HR : Hid (RowB w s (i * 4) V)) :
    Calls Try.prog 43 #[.agg #[.bool a, .bool g, .bool f, .bool v], .slice s i c] w fun e w' => e = .returned (.bool (barB a g f V i)) ∧ Below w.heap.size w w' := by
  go_enter Try.func43, Try.ntmps43
  cases a
  case false =>
    go_wp2
    go_ret
    exact ⟨ret_bool (by simp [barB]), (by repeat (first | with_reducible exact Below.refl _ _ | with_reducible refine Below.setCell ?_ (by first | omega | (simp; done) | (simp; omega)) _ | with_reducible refine bDrewN ?_ _ | with_reducible refine Below.drew ?_ | with_reducible refine Below.alloc ?_ (by first | omega | (simp; done) | (simp; omega)) _))⟩
  cases g
  case false =>
    go_wp2
    go_ret
    exact ⟨ret_bool (by simp [barB]), (by repeat (first | with_reducible exact Below.refl _ _ | with_reducible refine Below.setCell ?_ (by first | omega | (simp; done) | (simp; omega)) _ | with_reducible refine bDrewN ?_ _ | with_reducible refine Below.drew ?_ | with_reducible refine Below.alloc ?_ (by first | omega | (simp; done) | (simp; omega)) _))⟩
  go_wp2_with fail
  refine (eachOfLast_any 74 openF s i c V 1 1 _ rfl (by decide) (by decide) hi hc (HR.out.below (by repeat (first | with_reducible exact Below.refl _ _ | with_reducible refine Below.setCell ?_ (by first | omega | (simp; done) | (simp; omega)) _ | with_reducible refine bDrewN ?_ _ | with_reducible refine Below.drew ?_ | with_reducible refine Below.alloc ?_ (by first | omega | (simp; done) | (simp; omega)) _))) enter_open isOpen_any).mono ?_
  rintro e w1 ⟨rfl, h1⟩
  obtain ⟨hc1, hf1⟩ := bcell h1
  have q0 := hc1 w.heap.size 0 (by first | omega | (simp; done) | (simp; omega))
  have q1 := hc1 w.heap.size 1 (by first | omega | (simp; done) | (simp; omega))
  have q2 := hc1 w.heap.size 2 (by first | omega | (simp; done) | (simp; omega))
  have q3 := hc1 w.heap.size 3 (by first | omega | (simp; done) | (simp; omega))
  simp [go_sem] at q0 q1 q2 q3
  have z1 : w.heap.size < w1.heap.size := by have := h1.size; simp at this; omega
  have B1 : Below w.heap.size w w1 := Below.trans (by repeat (first | with_reducible exact Below.refl _ _ | with_reducible refine Below.setCell ?_ (by first | omega | (simp; done) | (simp; omega)) _ | with_reducible refine bDrewN ?_ _ | with_reducible refine Below.drew ?_ | with_reducible refine Below.alloc ?_ (by first | omega | (simp; done) | (simp; omega)) _)) (h1.mono (by first | omega | (simp; done) | (simp; omega)))
  clear hc1 hf1 h1
  cases h0 : eachB openF V i 1
  · have HO : Hid (barB true true f V i = (f || !eachB purgF V i 4)) := show _ = _ by simp [barB, h0]
    cases f
    case true =>
      go_wp2
      go_ret
      exact ⟨ret_bool (by rw [HO.out]; rfl), B1⟩
    go_wp2_with fail
    refine (eachOfLast_any 75 purgF s i c V 4 4 _ rfl (by decide) (by decide) hi hc (HR.out.below B1) enter_purg isPurging_any).mono ?_
    rintro e w2 ⟨rfl, h2⟩
    have B2 := B1.trans (h2.mono B1.size)
    go_wp2
    go_ret
    exact ⟨ret_bool (by rw [HO.out]; rfl), B2⟩
  have HO : Hid (barB true true f V i = ((!f && eachB darkF V i 2) && eachB openF V i 3)) := show _ = _ by simp [barB, h0]
  clear h0
  go_wp2_with fail
  refine (isDark_any true true f v _).mono ?_
  rintro e w2 ⟨rfl, h2⟩
  have B2 := B1.trans (h2.mono B1.size)
  clear h2
  unfold darkF
  cases f
  case true =>
    go_wp2
    go_ret
    exact ⟨ret_bool (by rw [HO.out]; rfl), B2⟩
  go_wp2_with fail
  refine (eachOfLast_any 76 darkF s i c V 2 2 _ rfl (by decide) (by decide) hi hc (HR.out.below B2) enter_dark isDark_any).mono ?_
  rintro e w3 ⟨rfl, h3⟩
  have B3 := B2.trans (h3.mono B2.size)
  clear h3
  cases h1 : eachB darkF V i 2
  · go_wp2
    go_ret
    exact ⟨ret_bool (by rw [HO.out, h1]; rfl), B3⟩
  go_wp2_with fail
  refine (eachOfLast_any 74 openF s i c V 3 3 _ rfl (by decide) (by decide) hi hc (HR.out.below B3) enter_open isOpen_any).mono ?_
  rintro e w4 ⟨rfl, h4⟩
  have B4 := B3.trans (h4.mono B3.size)
  go_wp2
  go_ret
  exact ⟨ret_bool (by rw [HO.out, h1]; rfl), B4⟩
theorem keepSg {W W' : World} {p : Nat} {a b c d : Value} (h0 : W.cell? ⟨p, 0, none⟩ = some a) (h1 : W.cell? ⟨p, 1, none⟩ = some b) (h2 : W.cell? ⟨p, 2, none⟩ = some c) (h3 : W.cell? ⟨p, 3, none⟩ = some d) (hp : p < W.heap.size) (hb : Below W.heap.size W W') : W'.cell? ⟨p, 0, none⟩ = some a ∧ W'.cell? ⟨p, 1, none⟩ = some b ∧ W'.cell? ⟨p, 2, none⟩ = some c ∧ W'.cell? ⟨p, 3, none⟩ = some d :=
  ⟨(hb.cell (p := ⟨p, 0, none⟩) hp).trans h0, (hb.cell (p := ⟨p, 1, none⟩) hp).trans h1, (hb.cell (p := ⟨p, 2, none⟩) hp).trans h2, (hb.cell (p := ⟨p, 3, none⟩) hp).trans h3⟩
set_option maxRecDepth 20000 in
set_option maxHeartbeats 8000000 in
theorem implLawful_any (s : Option Addr) (n c : Nat) (V : Nat → Bool) (w : World) (hn : (n : Int) ≤ 1048576) (hc : n ≤ c) (HR : Hid (RowB w s (n * 4) V)) :
    Calls Try.prog 29 #[.slice s n c] w fun e w' => ∃ x, LawV n V x ∧ e = .returned (.int .i64 x) ∧ Below w.heap.size w w' := by
  by_cases hf : (1000 : Int) < n
  · go_enter Try.func29, Try.ntmps29
    go_wp2
    go_ret
    exact ⟨-1, .inl ⟨by omega, rfl⟩, rfl, (by repeat (first | with_reducible exact Below.refl _ _ | with_reducible refine Below.setCell ?_ (by first | omega | (simp; done) | (simp; omega)) _ | with_reducible refine bDrewN ?_ _ | with_reducible refine Below.drew ?_ | with_reducible refine Below.alloc ?_ (by first | omega | (simp; done) | (simp; omega)) _))⟩
  go_enter Try.func29, Try.ntmps29
  go_wp2_with fail
  go_loopw [10] (fun i wr => ∃ k : Nat, k ≤ n ∧ i = .int .i64 k ∧ Hid (∀ j, j < k → badB V j = false) ∧ Hid (Below w.heap.size w wr)) (fun i _ => n - (intOf i).toNat)
  case atStart => exact ⟨0, Nat.zero_le _, rfl, fun j hj => by omega, Below.refl _ _⟩
  case round =>
    obtain ⟨k, hk, rfl, HP, HB⟩ := hrel
    by_cases h1 : k < n
    · have hB := HB.out
      obtain ⟨g, o, rfl, hg, c0⟩ := HR.out (k * 4) (by omega)
      obtain ⟨g', o', e', hg1, c1⟩ := HR.out (k * 4 + 1) (by omega)
      cases e'
      obtain ⟨g', o', e', hg2, c2⟩ := HR.out (k * 4 + 2) (by omega)
      cases e'
      obtain ⟨g', o', e', hg3, c3⟩ := HR.out (k * 4 + 3) (by omega)
      cases e'
      have d0 : wr.cell? ⟨g, o + k * 4, none⟩ = some (.bool (V (k * 4))) := (hB.cell (p := ⟨g, o + (k * 4), none⟩) hg).trans c0
      have d1 : wr.cell? ⟨g, o + k * 4 + 1, none⟩ = some (.bool (V (k * 4 + 1))) := (hB.cell (p := ⟨g, o + (k * 4 + 1), none⟩) hg1).trans c1
      have d2 : wr.cell? ⟨g, o + k * 4 + 2, none⟩ = some (.bool (V (k * 4 + 2))) := (hB.cell (p := ⟨g, o + (k * 4 + 2), none⟩) hg2).trans c2
      have d3 : wr.cell? ⟨g, o + k * 4 + 3, none⟩ = some (.bool (V (k * 4 + 3))) := (hB.cell (p := ⟨g, o + (k * 4 + 3), none⟩) hg3).trans c3
      have zd : g < wr.heap.size := Nat.lt_of_lt_of_le hg3 hB.size
      have k1 : (k : Int) < (n : Int) := by omega
      have kc0 : (0 : Int) ≤ (k : Int) := by omega
      have kc : (k : Int) ≤ (c : Int) := by omega
      have HV : Hid (badB V k = (V (k * 4 + 3) && barB (V (k * 4)) (V (k * 4 + 1)) (V (k * 4 + 2)) V k)) := rfl
      have HQ : Hid (∀ w', Below w.heap.size w w' → Calls Try.prog 43 #[.agg #[.bool (V (k * 4)), .bool (V (k * 4 + 1)), .bool (V (k * 4 + 2)), .bool (V (k * 4 + 3))], .slice (some ⟨g, o, none⟩) k c] w' fun e w'' => e = .returned (.bool (barB (V (k * 4)) (V (k * 4 + 1)) (V (k * 4 + 2)) V k)) ∧ Below w'.heap.size w' w'') := fun w' hb => barred_any _ _ _ _ _ k c V w' (by omega) (by omega) (row_upto (HR.out.below hb) (by omega))
      obtain ⟨u0, hu0⟩ : ∃ u, V (k * 4) = u := ⟨_, rfl⟩
      rw [hu0] at d0 HV HQ
      obtain ⟨u1, hu1⟩ : ∃ u, V (k * 4 + 1) = u := ⟨_, rfl⟩
      rw [hu1] at d1 HV HQ
      obtain ⟨u2, hu2⟩ : ∃ u, V (k * 4 + 2) = u := ⟨_, rfl⟩
      rw [hu2] at d2 HV HQ
      obtain ⟨u3, hu3⟩ : ∃ u, V (k * 4 + 3) = u := ⟨_, rfl⟩
      rw [hu3] at d3 HV HQ
      clear hB c0 c1 c2 c3 hg hg1 hg2 hg3 hu0 hu1 hu2 hu3
      obtain ⟨bb, hbb⟩ : ∃ bb, barB u0 u1 u2 V k = bb := ⟨_, rfl⟩
      rw [hbb] at HV HQ
      clear hbb
      go_upto_region 6 with fail
      obtain ⟨wd, hwd⟩ : ∃ wd, wd = wr.alloc (.cells #[.bool u0, .bool u1, .bool u2, .bool u3] 63) := ⟨_, rfl⟩
      rw [← hwd]
      have a0 : wd.cell? ⟨wr.heap.size, 0, none⟩ = some (.bool u0) := by rw [hwd]; simp [go_sem]
      have a1 : wd.cell? ⟨wr.heap.size, 1, none⟩ = some (.bool u1) := by rw [hwd]; simp [go_sem]
      have a2 : wd.cell? ⟨wr.heap.size, 2, none⟩ = some (.bool u2) := by rw [hwd]; simp [go_sem]
      have a3 : wd.cell? ⟨wr.heap.size, 3, none⟩ = some (.bool u3) := by rw [hwd]; simp [go_sem]
      have za : wr.heap.size < wd.heap.size := by rw [hwd]; simp
      have BD : Hid (Below w.heap.size w wd) := HB.out.trans (Below.mono (by rw [hwd]; exact (by repeat (first | with_reducible exact Below.refl _ _ | with_reducible refine Below.setCell ?_ (by first | omega | (simp; done) | (simp; omega)) _ | with_reducible refine bDrewN ?_ _ | with_reducible refine Below.drew ?_ | with_reducible refine Below.alloc ?_ (by first | omega | (simp; done) | (simp; omega)) _))) HB.out.size)
      clear hwd d0 d1 d2 d3
      cases u3
      case false =>
        refine wp_region_held_drew (S := fun _ => True) (by kernel_rfl) trivial (fun hHeld => ?_)
        refine wpAnyH_ready (rs := [0]) (by kernel_rfl) (by simp) ?_
        refine AllReadyH.cons rfl (fun K hK => ?_) AllReadyH.nil
        go_simp
        refine hK.out _ _ trivial (fun hHeld => ?_)
        clear hK K
        refine wpAnyH_ready (rs := [1]) (by kernel_rfl) (by simp) ?_
        refine AllReadyH.cons rfl (fun K hK => ?_) AllReadyH.nil
        go_simp
        refine hK.out _ _ trivial (fun hHeld => ?_)
        clear hK K
        refine wpAnyH_ready (rs := [2]) (by kernel_rfl) (by simp) ?_
        refine AllReadyH.cons rfl (fun K hK => ?_) AllReadyH.nil
        go_simp
        refine hK.out _ _ trivial (fun hHeld => ?_)
        clear hK K
        refine wpAnyH_take (i := 3) (v := undef) rfl (by kernel_rfl) (by kernel_rfl) (by kernel_rfl) (fun _ _ _ h => h) (Or.inr ⟨by kernel_rfl, rfl⟩) trivial ?_
        simp only [Act.put, List.setIfInBounds_toArray, List.set_cons_zero, List.set_cons_succ]
        refine wpAnyH_take (i := 4) (v := undef) rfl (by kernel_rfl) (by kernel_rfl) (by kernel_rfl) (fun _ _ _ h => h) (Or.inr ⟨by kernel_rfl, rfl⟩) trivial ?_
        simp only [Act.put, List.setIfInBounds_toArray, List.set_cons_zero, List.set_cons_succ]
        refine wpAnyH_take (i := 5) (v := undef) rfl (by kernel_rfl) (by kernel_rfl) (by kernel_rfl) (fun _ _ _ h => h) (Or.inr ⟨by kernel_rfl, rfl⟩) trivial ?_
        simp only [Act.put, List.setIfInBounds_toArray, List.set_cons_zero, List.set_cons_succ]
        refine wpAnyH_take (i := 6) (v := undef) rfl (by kernel_rfl) (by kernel_rfl) (by kernel_rfl) (fun _ _ _ h => h) (Or.inr ⟨by kernel_rfl, rfl⟩) trivial ?_
        simp only [Act.put, List.setIfInBounds_toArray, List.set_cons_zero, List.set_cons_succ]
        refine wpAnyH_take (i := 7) (v := undef) rfl (by kernel_rfl) (by kernel_rfl) (by kernel_rfl) (fun _ _ _ h => h) (Or.inr ⟨by kernel_rfl, rfl⟩) trivial ?_
        simp only [Act.put, List.setIfInBounds_toArray, List.set_cons_zero, List.set_cons_succ]
        refine wpAnyH_ready (rs := [8]) (by kernel_rfl) (by simp) ?_
        refine AllReadyH.cons rfl (fun K hK => ?_) AllReadyH.nil
        go_simp
        refine hK.out _ _ trivial (fun hHeld => ?_)
        clear hK K
        refine wpAnyH_done (by kernel_rfl) ?_ _
        have HK : Hid (badB V k = false) := HV.out
        go_wp2
        go_roundw
        case rel => exact ⟨k + 1, by omega, by go_num, ballB HP.out HK.out, by have B2 := BD.out; show Below _ _ _; exact (by repeat (first | with_reducible exact Below.refl _ _ | with_reducible exact B2 | with_reducible refine Below.setCell ?_ (by first | omega | (simp; done) | (simp; omega)) _ | with_reducible refine bDrewN ?_ _ | with_reducible refine Below.drew ?_ | with_reducible refine Below.alloc ?_ (by first | omega | (simp; done) | (simp; omega)) _))⟩
        case measure => simp [intOf]; omega
      case true =>
        go_cut [23] (fun q wx => q = .bool bb ∧ Below wd.heap.size wd wx)
        case first =>
          go_region_held3 (fun w' => w'.cell? ⟨wr.heap.size, 0, none⟩ = some (.bool u0) ∧ w'.cell? ⟨wr.heap.size, 1, none⟩ = some (.bool u1) ∧ w'.cell? ⟨wr.heap.size, 2, none⟩ = some (.bool u2) ∧ w'.cell? ⟨wr.heap.size, 3, none⟩ = some (.bool true)) (first | (refine keepSg a0 a1 a2 a3 za ?_; exact (by repeat (first | with_reducible exact Below.refl _ _ | with_reducible exact B3 | with_reducible refine Below.setCell ?_ (by first | omega | (simp; done) | (simp; omega)) _ | with_reducible refine bDrewN ?_ _ | with_reducible refine Below.drew ?_ | with_reducible refine Below.alloc ?_ (by first | omega | (simp; done) | (simp; omega)) _)))) (first
            | (go_at_call 43; refine (HQ.out _ (BD.out.trans (Below.mono (by repeat (first | with_reducible exact Below.refl _ _ | with_reducible refine Below.setCell ?_ (by first | omega | (simp; done) | (simp; omega)) _ | with_reducible refine bDrewN ?_ _ | with_reducible refine Below.drew ?_ | with_reducible refine Below.alloc ?_ (by first | omega | (simp; done) | (simp; omega)) _)) BD.out.size))).mono ?_; rintro r w3 ⟨rfl, h3⟩; have B3 : Below wd.heap.size wd w3 := Below.trans (by repeat (first | with_reducible exact Below.refl _ _ | with_reducible refine Below.setCell ?_ (by first | omega | (simp; done) | (simp; omega)) _ | with_reducible refine bDrewN ?_ _ | with_reducible refine Below.drew ?_ | with_reducible refine Below.alloc ?_ (by first | omega | (simp; done) | (simp; omega)) _)) (h3.mono (by first | omega | (simp; done) | (simp; omega)))))
          all_goals
            go_wp2_with fail
            go_meet
            case rel => exact ⟨rfl, (by repeat (first | with_reducible exact Below.refl _ _ | with_reducible exact B3 | with_reducible refine Below.setCell ?_ (by first | omega | (simp; done) | (simp; omega)) _ | with_reducible refine bDrewN ?_ _ | with_reducible refine Below.drew ?_ | with_reducible refine Below.alloc ?_ (by first | omega | (simp; done) | (simp; omega)) _))⟩
        case rest =>
          obtain ⟨rfl, hB⟩ := hcut
          have BC : Hid (Below w.heap.size w wc) := BD.out.trans (hB.mono BD.out.size)
          clear hB
          cases bb
          · have HK : Hid (badB V k = false) := HV.out
            go_wp2
            go_roundw
            case rel => exact ⟨k + 1, by omega, by go_num, ballB HP.out HK.out, BC.out⟩
            case measure => simp [intOf]; omega
          · have HL : Hid (LawV n V k) := .inr ⟨by omega, .inr ⟨k, h1, rfl, HV.out, HP.out⟩⟩
            have BF := BC.out
            go_wp2
            go_ret
            exact ⟨k, HL.out, rfl, BF⟩
    · obtain rfl : k = n := by omega
      have BF := HB.out
      have HL : Hid (LawV k V (-1)) := .inr ⟨by omega, .inl ⟨rfl, HP.out⟩⟩
      go_wp2
      go_ret
      exact ⟨-1, HL.out, rfl, BF⟩
end Go.Proofs.Ytpnihekpokfooaa
