/-
What is proved: when a board is right, in numbers, and as both packages say it.
-/
import Derived.Test.YtlbbdifmjdpfiaaIsWz
import Derived.Test.YtlbbdifmjdpfiaaZdD
import Derived.Deep.RegionHeld3
import Derived.Deep.DeepCutAuto
import Derived.BigQuiet
namespace Go.Proofs.Ytlbbdifmjdpfiaa
set_option maxRecDepth 40000
open Go.ChangeShapes Go.WideShapes Go.ChangeAt Go.RowKit
set_option linter.unusedVariables false
set_option linter.unusedSimpArgs false

/-- An alarm that is right by itself. -/
def almB (z : Int × Int × Int × Bool × Int) : Bool := inB 1 9 z.1 && (inB 0 255 z.2.1 && (inB 0 3 z.2.2.1 && (inB 0 1000001000 z.2.2.2.2 && (z.2.2.1 != 0 || !z.2.2.2.1))))
/-- Has one of the first k of a group First? -/
def ledB (V : Nat → Int × Int × Int × Bool × Int) : Nat → Int → Bool
  | 0, _ => false
  | k + 1, g => ledB V k g || ((V k).2.2.2.1 && decide ((V k).1 = g))
/-- The first k are right, no two of one group with First. -/
def okB (V : Nat → Int × Int × Int × Bool × Int) : Nat → Bool
  | 0 => true
  | k + 1 => okB V k && (almB (V k) && !((V k).2.2.2.1 && ledB V k (V k).1))
def boardB (x : Int) (n : Nat) (V : Nat → Int × Int × Int × Bool × Int) : Bool := inB 0 1000000000 x && (decide (n ≤ 60) && okB V n)
theorem led_mono {V : Nat → Int × Int × Int × Bool × Int} {g : Int} {k m : Nat} (h : k ≤ m) (hk : ledB V k g = true) : ledB V m g = true := by
  induction m with
  | zero => obtain rfl : k = 0 := by omega
            exact hk
  | succ m ih =>
    by_cases e : k = m + 1
    · subst e; exact hk
    · have := ih (by omega)
      simp [ledB, this]
theorem ok_mono {V : Nat → Int × Int × Int × Bool × Int} {k m : Nat} (h : k ≤ m) (hk : okB V k = false) : okB V m = false := by
  induction m with
  | zero => obtain rfl : k = 0 := by omega
            exact hk
  | succ m ih =>
    by_cases e : k = m + 1
    · subst e; exact hk
    · have := ih (by omega)
      simp [okB, this]
theorem board_no {x : Int} {n k : Nat} {V : Nat → Int × Int × Int × Bool × Int} (hk : k < n) (h : okB V (k + 1) = false) : boardB x n V = false := by
  unfold boardB; rw [ok_mono (show k + 1 ≤ n by omega) h]; simp
theorem board_yes {x : Int} {n : Nat} {V : Nat → Int × Int × Int × Bool × Int} (h : boardB x n V = true) : (0 ≤ x ∧ x ≤ 1000000000) ∧ n ≤ 60 ∧ okB V n = true := by
  unfold boardB at h
  simp only [Bool.and_eq_true, decide_eq_true_iff] at h
  exact ⟨inB_yes h.1, h.2.1, h.2.2⟩
theorem ok_at {V : Nat → Int × Int × Int × Bool × Int} {n k : Nat} (h : okB V n = true) (hk : k < n) : almB (V k) = true := by
  cases q : almB (V k)
  · have : okB V (k + 1) = false := by simp [okB, q]
    rw [ok_mono (show k + 1 ≤ n by omega) this] at h
    cases h
  · rfl
theorem alm_yes {G O T U : Int} {F : Bool} (h : almB (G, O, T, F, U) = true) : (1 ≤ G ∧ G ≤ 9) ∧ (0 ≤ O ∧ O ≤ 255) ∧ (0 ≤ T ∧ T ≤ 3) ∧ (0 ≤ U ∧ U ≤ 1000001000) ∧ (T = 0 → F = false) := by
  unfold almB at h
  simp only [Bool.and_eq_true, Bool.or_eq_true] at h
  refine ⟨inB_yes h.1, inB_yes h.2.1, inB_yes h.2.2.1, inB_yes h.2.2.2.1, fun e => ?_⟩
  rcases h.2.2.2.2 with q | q
  · simp [e] at q
  · simpa using q
set_option maxHeartbeats 1600000 in
theorem right_any (G O T U : Int) (F : Bool) (w : World) : Calls Try.prog 53 #[.agg #[.int .i64 G, .int .i64 O, .int .i64 T, .bool F, .int .i64 U]] w fun e w' => e = .returned (.bool (almB (G, O, T, F, U))) ∧ Below w.heap.size w w' := by
  go_enter Try.func53, Try.ntmps53
  go_wp2_with fail
  refine (within_is _ _ _ _).mono ?_
  rintro e w1 ⟨rfl, rfl⟩
  cases h0 : inB 1 9 G
  · go_wp2
    go_ret
    exact ⟨ret_bool (by unfold almB; simp [h0]), (by repeat (first | with_reducible exact Below.refl _ _ | with_reducible refine Below.setCell ?_ (by first | omega | (simp; done) | (simp; omega)) _ | with_reducible refine bDrewN ?_ _ | with_reducible refine Below.drew ?_ | with_reducible refine Below.alloc ?_ (by first | omega | (simp; done) | (simp; omega)) _))⟩
  go_wp2_with fail
  refine (within_is _ _ _ _).mono ?_
  rintro e w1 ⟨rfl, rfl⟩
  cases h1 : inB 0 255 O
  · go_wp2
    go_ret
    exact ⟨ret_bool (by unfold almB; simp [h0, h1]), (by repeat (first | with_reducible exact Below.refl _ _ | with_reducible refine Below.setCell ?_ (by first | omega | (simp; done) | (simp; omega)) _ | with_reducible refine bDrewN ?_ _ | with_reducible refine Below.drew ?_ | with_reducible refine Below.alloc ?_ (by first | omega | (simp; done) | (simp; omega)) _))⟩
  go_wp2_with fail
  refine (within_is _ _ _ _).mono ?_
  rintro e w1 ⟨rfl, rfl⟩
  cases h2 : inB 0 3 T
  · go_wp2
    go_ret
    exact ⟨ret_bool (by unfold almB; simp [h0, h1, h2]), (by repeat (first | with_reducible exact Below.refl _ _ | with_reducible refine Below.setCell ?_ (by first | omega | (simp; done) | (simp; omega)) _ | with_reducible refine bDrewN ?_ _ | with_reducible refine Below.drew ?_ | with_reducible refine Below.alloc ?_ (by first | omega | (simp; done) | (simp; omega)) _))⟩
  go_wp2_with fail
  refine (within_is _ _ _ _).mono ?_
  rintro e w1 ⟨rfl, rfl⟩
  cases h3 : inB 0 1000001000 U
  · go_wp2
    go_ret
    exact ⟨ret_bool (by unfold almB; simp [h0, h1, h2, h3]), (by repeat (first | with_reducible exact Below.refl _ _ | with_reducible refine Below.setCell ?_ (by first | omega | (simp; done) | (simp; omega)) _ | with_reducible refine bDrewN ?_ _ | with_reducible refine Below.drew ?_ | with_reducible refine Below.alloc ?_ (by first | omega | (simp; done) | (simp; omega)) _))⟩
  by_cases t : T = 0
  · have t' : (T != 0) = false := by simp [t]
    cases F
    all_goals
      go_wp2
      go_ret
      exact ⟨ret_bool (by unfold almB; simp [h0, h1, h2, h3, t']), (by repeat (first | with_reducible exact Below.refl _ _ | with_reducible refine Below.setCell ?_ (by first | omega | (simp; done) | (simp; omega)) _ | with_reducible refine bDrewN ?_ _ | with_reducible refine Below.drew ?_ | with_reducible refine Below.alloc ?_ (by first | omega | (simp; done) | (simp; omega)) _))⟩
  · have t' : (T != 0) = true := by simp [t]
    go_wp2
    go_ret
    exact ⟨ret_bool (by unfold almB; simp [h0, h1, h2, h3, t']), (by repeat (first | with_reducible exact Below.refl _ _ | with_reducible refine Below.setCell ?_ (by first | omega | (simp; done) | (simp; omega)) _ | with_reducible refine bDrewN ?_ _ | with_reducible refine Below.drew ?_ | with_reducible refine Below.alloc ?_ (by first | omega | (simp; done) | (simp; omega)) _))⟩
/-- The flags of the groups, at the place p. -/
def LedAt (p : Nat) (wr : World) (V : Nat → Int × Int × Int × Bool × Int) (k : Nat) : Prop := p < wr.heap.size ∧ ∀ g, g < 10 → wr.cell? ⟨p, g, none⟩ = some (.bool (ledB V k g)) ∧ wr.frozen? ⟨p, g, none⟩ = false
theorem LedAt.below {p k : Nat} {w w' : World} {V : Nat → Int × Int × Int × Bool × Int} (h : LedAt p w V k) (hb : Below w.heap.size w w') : LedAt p w' V k := ⟨Nat.lt_of_lt_of_le h.1 hb.size, fun g hg => ⟨(hb.cell (p := ⟨p, g, none⟩) h.1).trans (h.2 g hg).1, (hb.frozen (p := ⟨p, g, none⟩) h.1).trans (h.2 g hg).2⟩⟩
theorem LedAt.on {p k g : Nat} {w : World} {V : Nat → Int × Int × Int × Bool × Int} {b : Bool} (h : LedAt p w V k) (hg : g < 10) (hG : (V k).1 = (g : Int)) (hb : b = ledB V (k + 1) g) : LedAt p (w.setCell ⟨p, g, none⟩ (.bool b)) V (k + 1) := by
  refine ⟨by simpa using h.1, fun j hj => ⟨?_, by simp [go_sem, (h.2 j hj).2]⟩⟩
  by_cases e : j = g
  · subst e
    rw [hb]
    exact World.cell?_setCell_same' _ _ _ (by rw [(h.2 j hj).1]; rfl)
  · rw [World.cell?_setCell_other _ _ _ _ (by intro q; cases q; exact e rfl), (h.2 j hj).1]
    have : ¬ (V k).1 = (j : Int) := by omega
    simp [ledB, this]
set_option maxRecDepth 20000 in
set_option maxHeartbeats 4000000 in
theorem implBoardOk_any (x : Int) (s : Option Addr) (n c : Nat) (V : Nat → Int × Int × Int × Bool × Int) (w : World) (hn : (n : Int) ≤ 1048576) (HR : Hid (RowAlarm w s n V)) :
    Calls Try.prog 14 #[.agg #[.int .i64 x, .slice s n c]] w fun e w' => e = .returned (.bool (boardB x n V)) ∧ Below w.heap.size w w' := by
  go_enter Try.func14, Try.ntmps14
  go_wp2_with fail
  refine (within_is _ _ _ _).mono ?_
  rintro e w1 ⟨rfl, rfl⟩
  cases h0 : inB 0 1000000000 x
  · go_wp2
    go_ret
    exact ⟨ret_bool (by unfold boardB; rw [h0]; rfl), (by repeat (first | with_reducible exact Below.refl _ _ | with_reducible refine Below.setCell ?_ (by first | omega | (simp; done) | (simp; omega)) _ | with_reducible refine bDrewN ?_ _ | with_reducible refine Below.drew ?_ | with_reducible refine Below.alloc ?_ (by first | omega | (simp; done) | (simp; omega)) _))⟩
  by_cases n1 : 60 < n
  · have b1 : (60 : Int) < (n : Int) := by omega
    have HO : Hid (boardB x n V = false) := by show _ = _; unfold boardB; rw [decide_eq_false (by omega : ¬ n ≤ 60)]; simp
    go_wp2
    go_ret
    exact ⟨ret_bool HO.out.symm, (by repeat (first | with_reducible exact Below.refl _ _ | with_reducible refine Below.setCell ?_ (by first | omega | (simp; done) | (simp; omega)) _ | with_reducible refine bDrewN ?_ _ | with_reducible refine Below.drew ?_ | with_reducible refine Below.alloc ?_ (by first | omega | (simp; done) | (simp; omega)) _))⟩
  have b1 : decide ((60 : Int) < (n : Int)) = false := decide_eq_false (by omega)
  have hn2 : (n : Int) ≤ 60 := by omega
  have HF : Hid (∀ q : Bool, okB V n = q → boardB x n V = q) := fun q e => by unfold boardB; rw [h0, e, decide_eq_true (by omega : n ≤ 60)]; simp
  clear h0 hn
  go_wp2_with fail
  go_loopw [19] (fun i wr => ∃ k : Nat, k ≤ n ∧ i = .int .i64 k ∧ Hid (okB V k = true) ∧ LedAt (w.heap.size + 1) wr V k ∧ Below w.heap.size w wr) (fun i _ => n - (intOf i).toNat)
  case atStart => exact ⟨0, Nat.zero_le _, rfl, rfl, ⟨by simp, fun g hg => ⟨by rcases g with _ | _ | _ | _ | _ | _ | _ | _ | _ | _ | g <;> first | omega | simp [go_sem, ledB], by simp [go_sem]⟩⟩, (by repeat (first | with_reducible exact Below.refl _ _ | with_reducible refine Below.setCell ?_ (by first | omega | (simp; done) | (simp; omega)) _ | with_reducible refine bDrewN ?_ _ | with_reducible refine Below.drew ?_ | with_reducible refine Below.alloc ?_ (by first | omega | (simp; done) | (simp; omega)) _))⟩
  case round =>
    obtain ⟨k, hk, rfl, HP, hL, hB⟩ := hrel
    by_cases h1 : k < n
    · obtain ⟨g, o, rfl, hg, c0, c1, c2, c3, c4⟩ := HR.out k (by omega)
      replace c0 := (hB.cell (p := ⟨g, o + k * 5, none⟩) hg).trans c0
      replace c1 := (hB.cell (p := ⟨g, o + k * 5 + 1, none⟩) hg).trans c1
      replace c2 := (hB.cell (p := ⟨g, o + k * 5 + 2, none⟩) hg).trans c2
      replace c3 := (hB.cell (p := ⟨g, o + k * 5 + 3, none⟩) hg).trans c3
      replace c4 := (hB.cell (p := ⟨g, o + k * 5 + 4, none⟩) hg).trans c4
      have zg : g < wr.heap.size := Nat.lt_of_lt_of_le hg hB.size
      obtain ⟨⟨G, O, T, F, U⟩, hV⟩ : ∃ z, V k = z := ⟨_, rfl⟩
      rw [hV] at c0 c1 c2 c3 c4
      simp only at c0 c1 c2 c3 c4
      have HV : Hid (V k = (G, O, T, F, U)) := hV
      have k1 : (k : Int) < (n : Int) := by omega
      have HB : Hid (Below w.heap.size w wr) := hB
      have zW : w.heap.size ≤ wr.heap.size := hB.size
      have HL : Hid (LedAt (w.heap.size + 1) wr V k) := hL
      clear hB hV hL hg
      go_wp2_with fail
      refine (right_any G O T U F _).mono ?_
      rintro e w2 ⟨rfl, h2⟩
      obtain ⟨hc, -⟩ := bcell h2
      have a0 := hc wr.heap.size 0 (by first | omega | (simp; done) | (simp; omega))
      have a3 := hc wr.heap.size 3 (by first | omega | (simp; done) | (simp; omega))
      simp [go_sem] at a0 a3
      have z2 : wr.heap.size < w2.heap.size := by have := h2.size; simp at this; omega
      have B2 : Below wr.heap.size wr w2 := Below.trans (by repeat (first | with_reducible exact Below.refl _ _ | with_reducible refine Below.setCell ?_ (by first | omega | (simp; done) | (simp; omega)) _ | with_reducible refine bDrewN ?_ _ | with_reducible refine Below.drew ?_ | with_reducible refine Below.alloc ?_ (by first | omega | (simp; done) | (simp; omega)) _)) (h2.mono (by first | omega | (simp; done) | (simp; omega)))
      have L2 := HL.out.below B2
      have BW : Below w.heap.size w w2 := HB.out.trans (B2.mono zW)
      clear hc h2 B2
      cases q0 : almB (G, O, T, F, U)
      · have HO : Hid (boardB x n V = false) := HF.out _ (ok_mono (show k + 1 ≤ n by omega) (by simp [okB, HV.out, q0]))
        go_wp2
        go_ret
        exact ⟨ret_bool HO.out.symm, (by repeat (first | with_reducible exact Below.refl _ _ | with_reducible exact BW | with_reducible refine Below.setCell ?_ (by first | omega | (simp; done) | (simp; omega)) _ | with_reducible refine bDrewN ?_ _ | with_reducible refine Below.drew ?_ | with_reducible refine Below.alloc ?_ (by first | omega | (simp; done) | (simp; omega)) _))⟩
      obtain ⟨⟨G1, G9⟩, -⟩ := alm_yes q0
      obtain ⟨g', rfl⟩ : ∃ g' : Nat, G = (g' : Int) := ⟨G.toNat, by omega⟩
      obtain ⟨zl, hl⟩ := L2
      have HL2 : Hid (LedAt (w.heap.size + 1) w2 V k) := ⟨zl, hl⟩
      obtain ⟨l0, lf⟩ := hl g' (by omega)
      have g10 : (g' : Int) < 10 := by omega
      clear hl
      cases q1 : ledB V k g'
      all_goals
        rw [q1] at l0
        cases F
      case' true.true =>
        have HO : Hid (boardB x n V = false) := HF.out _ (ok_mono (show k + 1 ≤ n by omega) (by simp [okB, HV.out, q1]))
        go_wp2
        go_ret
        exact ⟨ret_bool HO.out.symm, (by repeat (first | with_reducible exact Below.refl _ _ | with_reducible exact BW | with_reducible refine Below.setCell ?_ (by first | omega | (simp; done) | (simp; omega)) _ | with_reducible refine bDrewN ?_ _ | with_reducible refine Below.drew ?_ | with_reducible refine Below.alloc ?_ (by first | omega | (simp; done) | (simp; omega)) _))⟩
      all_goals
        have HK : Hid (okB V (k + 1) = true) := by show _ = _; simp [okB, HP.out, HV.out, q0, q1]
        have HS : Hid (∀ W b, LedAt (w.heap.size + 1) W V k → b = ledB V (k + 1) g' → LedAt (w.heap.size + 1) (W.setCell ⟨w.heap.size + 1, g', none⟩ (.bool b)) V (k + 1)) := fun W b h e => h.on (by omega) (by rw [HV.out]) e
        have HE : Hid (ledB V (k + 1) g' = (ledB V k g' || ((V k).2.2.2.1 && decide ((V k).1 = g')))) := rfl
        go_wp2_with fail
        first | go_region_with (fail) | fail
        all_goals
          go_wp2
          go_roundw
          case rel => exact ⟨k + 1, by omega, by go_num, HK.out, HS.out _ _ HL2.out (by rw [HE.out, HV.out, q1]; simp), (by repeat (first | with_reducible exact Below.refl _ _ | with_reducible exact BW | with_reducible refine Below.setCell ?_ (by first | omega | (simp; done) | (simp; omega)) _ | with_reducible refine bDrewN ?_ _ | with_reducible refine Below.drew ?_ | with_reducible refine Below.alloc ?_ (by first | omega | (simp; done) | (simp; omega)) _))⟩
          case measure => first | (simp [intOf]; done) | (simp [intOf]; omega)
    · obtain rfl : k = n := by omega
      have HO : Hid (boardB x k V = true) := HF.out _ HP.out
      go_wp2
      go_ret
      exact ⟨ret_bool HO.out.symm, hB⟩
end Go.Proofs.Ytlbbdifmjdpfiaa
