/-
What is proved: the first alarm of a group, in numbers, and as both packages tell it.
-/
import Derived.Test.YtlbbdifmjdpfiaaBdSz
namespace Go.Proofs.Ytlbbdifmjdpfiaa
set_option maxRecDepth 40000
open Go.ChangeShapes Go.WideShapes Go.ChangeAt Go.RowKit
set_option linter.unusedVariables false
set_option linter.unusedSimpArgs false

def hitB (z : Int × Int × Int × Bool × Int) (g : Int) : Bool := z.2.2.2.1 && decide (z.1 = g)
def firTo (V : Nat → Int × Int × Int × Bool × Int) (g : Int) : Nat → Int
  | 0 => -1
  | k + 1 => if firTo V g k = -1 then (if hitB (V k) g = true then (k : Int) else -1) else firTo V g k
def firV (x : Int) (n : Nat) (V : Nat → Int × Int × Int × Bool × Int) (g : Int) : Int := if boardB x n V = true then firTo V g n else -1
theorem fir_hit {V : Nat → Int × Int × Int × Bool × Int} {g : Int} {k m : Nat} (h0 : firTo V g k = -1) (h1 : hitB (V k) g = true) (hm : k + 1 ≤ m) : firTo V g m = k := by
  induction m with
  | zero => omega
  | succ m ih =>
    by_cases e : k = m
    · subst e
      simp [firTo, h0, h1]
    · have := ih (by omega)
      simp only [firTo]
      rw [if_neg (by rw [this]; omega), this]
theorem fir_on {V : Nat → Int × Int × Int × Bool × Int} {g : Int} {k : Nat} (h0 : firTo V g k = -1) (h1 : hitB (V k) g = false) : firTo V g (k + 1) = -1 := by simp [firTo, h0, h1]
set_option maxRecDepth 20000 in
set_option maxHeartbeats 4000000 in
theorem implFirstOf_any (x : Int) (s : Option Addr) (n c : Nat) (V : Nat → Int × Int × Int × Bool × Int) (q : Int) (w : World) (hn : (n : Int) ≤ 1048576) (HR : Hid (RowAlarm w s n V)) :
    Calls Try.prog 16 #[.agg #[.int .i64 x, .slice s n c], .int .i64 q] w fun e w' => e = .returned (.int .i64 (firV x n V q)) ∧ Below w.heap.size w w' := by
  go_enter Try.func16, Try.ntmps16
  go_wp2_with fail
  refine (implBoardOk_any x s n c V _ hn (HR.out.below (by repeat (first | with_reducible exact Below.refl _ _ | with_reducible refine Below.setCell ?_ (by first | omega | (simp; done) | (simp; omega)) _ | with_reducible refine bDrewN ?_ _ | with_reducible refine Below.drew ?_ | with_reducible refine Below.alloc ?_ (by first | omega | (simp; done) | (simp; omega)) _)))).mono ?_
  rintro e w1 ⟨rfl, h1⟩
  obtain ⟨hc, -⟩ := bcell h1
  have p1 := hc w.heap.size 1 (by first | omega | (simp; done) | (simp; omega))
  simp [go_sem] at p1
  have B1 : Below w.heap.size w w1 := Below.trans (by repeat (first | with_reducible exact Below.refl _ _ | with_reducible refine Below.setCell ?_ (by first | omega | (simp; done) | (simp; omega)) _ | with_reducible refine bDrewN ?_ _ | with_reducible refine Below.drew ?_ | with_reducible refine Below.alloc ?_ (by first | omega | (simp; done) | (simp; omega)) _)) (h1.mono (by first | omega | (simp; done) | (simp; omega)))
  clear hc h1
  cases h0 : boardB x n V
  · have HO : Hid (firV x n V q = -1) := by show _ = _; unfold firV; rw [h0]; rfl
    go_wp2
    go_ret
    exact ⟨ret_int HO.out.symm, B1⟩
  obtain ⟨-, n60, -⟩ := board_yes h0
  have HF : Hid (firV x n V q = firTo V q n) := by show _ = _; unfold firV; rw [h0]; rfl
  have hn2 : (n : Int) ≤ 60 := by omega
  clear hn h0 n60
  go_wp2_with fail
  go_loopw [13] (fun i wr => ∃ k : Nat, k ≤ n ∧ i = .int .i64 k ∧ Hid (firTo V q k = -1) ∧ Below w.heap.size w wr) (fun i _ => n - (intOf i).toNat)
  case atStart => exact ⟨0, Nat.zero_le _, rfl, rfl, B1⟩
  case round =>
    obtain ⟨k, hk, rfl, HP, hB⟩ := hrel
    have zW := hB.size
    by_cases h1 : k < n
    · obtain ⟨g, o, rfl, hg, c0, c1, c2, c3, c4⟩ := HR.out k (by omega)
      replace c0 := (hB.cell (p := ⟨g, o + k * 5, none⟩) hg).trans c0
      replace c1 := (hB.cell (p := ⟨g, o + k * 5 + 1, none⟩) hg).trans c1
      replace c2 := (hB.cell (p := ⟨g, o + k * 5 + 2, none⟩) hg).trans c2
      replace c3 := (hB.cell (p := ⟨g, o + k * 5 + 3, none⟩) hg).trans c3
      replace c4 := (hB.cell (p := ⟨g, o + k * 5 + 4, none⟩) hg).trans c4
      have zg : g < wr.heap.size := Nat.lt_of_lt_of_le hg hB.size
      obtain ⟨⟨G, O, T, F, U⟩, hV⟩ : ∃ z, V k = z := ⟨_, rfl⟩
      rw [hV] at c0 c1 c2 c3 c4
      simp only at c0 c1 c2 c3 c4
      have HV : Hid (V k = (G, O, T, F, U)) := hV
      have k1 : (k : Int) < (n : Int) := by omega
      clear hV hg
      cases F
      case false =>
        have HN : Hid (firTo V q (k + 1) = -1) := fir_on HP.out (by rw [HV.out]; rfl)
        go_wp2
        go_roundw
        case rel => exact ⟨k + 1, by omega, by go_num, HN.out, (by repeat (first | with_reducible exact Below.refl _ _ | with_reducible exact hB | with_reducible refine Below.setCell ?_ (by first | omega | (simp; done) | (simp; omega)) _ | with_reducible refine bDrewN ?_ _ | with_reducible refine Below.drew ?_ | with_reducible refine Below.alloc ?_ (by first | omega | (simp; done) | (simp; omega)) _))⟩
        case measure => first | (simp [intOf]; done) | (simp [intOf]; omega)
      by_cases e : G = q
      · subst e
        have HO : Hid (firV x n V G = k) := HF.out.trans (fir_hit HP.out (by rw [HV.out]; simp [hitB]) (by omega))
        go_wp2
        go_ret
        exact ⟨ret_int HO.out.symm, (by repeat (first | with_reducible exact Below.refl _ _ | with_reducible exact hB | with_reducible refine Below.setCell ?_ (by first | omega | (simp; done) | (simp; omega)) _ | with_reducible refine bDrewN ?_ _ | with_reducible refine Below.drew ?_ | with_reducible refine Below.alloc ?_ (by first | omega | (simp; done) | (simp; omega)) _))⟩
      · have e' : (G == q) = false := by simpa using e
        have HN : Hid (firTo V q (k + 1) = -1) := fir_on HP.out (by rw [HV.out]; simp [hitB, e])
        clear e
        go_wp2
        go_roundw
        case rel => exact ⟨k + 1, by omega, by go_num, HN.out, (by repeat (first | with_reducible exact Below.refl _ _ | with_reducible exact hB | with_reducible refine Below.setCell ?_ (by first | omega | (simp; done) | (simp; omega)) _ | with_reducible refine bDrewN ?_ _ | with_reducible refine Below.drew ?_ | with_reducible refine Below.alloc ?_ (by first | omega | (simp; done) | (simp; omega)) _))⟩
        case measure => first | (simp [intOf]; done) | (simp [intOf]; omega)
    · obtain rfl : k = n := by omega
      have HO : Hid (firV x k V q = -1) := HF.out.trans HP.out
      go_wp2
      go_ret
      exact ⟨ret_int HO.out.symm, hB⟩
set_option maxRecDepth 20000 in
set_option maxHeartbeats 4000000 in
theorem specFirstOf_any (x : Int) (s : Option Addr) (n c : Nat) (V : Nat → Int × Int × Int × Bool × Int) (q : Int) (w : World) (hn : (n : Int) ≤ 1048576) (HR : Hid (RowAlarm w s n V)) :
    Calls Try.prog 38 #[.agg #[.int .i64 x, .slice s n c], .int .i64 q] w fun e w' => e = .returned (.int .i64 (firV x n V q)) ∧ Below w.heap.size w w' := by
  go_enter Try.func38, Try.ntmps38
  go_wp2_with fail
  go_loopw [5] (fun i wr => ∃ k : Nat, (k = 0 ∨ (boardB x n V = true ∧ k ≤ n)) ∧ i = .int .i64 k ∧ Hid (firTo V q k = -1) ∧ wr.cell? ⟨w.heap.size, 0, none⟩ = some (.int .i64 x) ∧ wr.cell? ⟨w.heap.size, 1, none⟩ = some (.slice s n c) ∧ w.heap.size < wr.heap.size ∧ Below w.heap.size w wr) (fun i _ => n - (intOf i).toNat)
  case atStart => exact ⟨0, .inl rfl, rfl, rfl, by simp [go_sem], by simp [go_sem], by simp, (by repeat (first | with_reducible exact Below.refl _ _ | with_reducible refine Below.setCell ?_ (by first | omega | (simp; done) | (simp; omega)) _ | with_reducible refine bDrewN ?_ _ | with_reducible refine Below.drew ?_ | with_reducible refine Below.alloc ?_ (by first | omega | (simp; done) | (simp; omega)) _))⟩
  case round =>
    obtain ⟨k, hk, rfl, HP, p0, p1, zp, hB⟩ := hrel
    have HK : Hid (k = 0 ∨ (boardB x n V = true ∧ k ≤ n)) := hk
    clear hk
    go_wp2_with fail
    refine (specBoardOk_any x s n c V _ hn (HR.out.below hB)).mono ?_
    rintro e w2 ⟨rfl, h2⟩
    replace p0 := (h2.cell (p := ⟨w.heap.size, 0, none⟩) zp).trans p0
    replace p1 := (h2.cell (p := ⟨w.heap.size, 1, none⟩) zp).trans p1
    replace zp := Nat.lt_of_lt_of_le zp h2.size
    replace hB : Below w.heap.size w w2 := hB.trans (h2.mono hB.size)
    clear h2
    cases h0 : boardB x n V
    · have HO : Hid (firV x n V q = -1) := by show _ = _; unfold firV; rw [h0]; rfl
      go_wp2
      go_ret
      exact ⟨ret_int HO.out.symm, hB⟩
    obtain ⟨-, n60, -⟩ := board_yes h0
    have HF : Hid (firV x n V q = firTo V q n) := by show _ = _; unfold firV; rw [h0]; rfl
    have H0 : Hid (boardB x n V = true) := h0
    have hn2 : (n : Int) ≤ 60 := by omega
    have hk : k ≤ n := by rcases HK.out with h | h <;> omega
    clear h0 n60
    have zW := hB.size
    by_cases h1 : k < n
    · obtain ⟨g, o, rfl, hg, c0, c1, c2, c3, c4⟩ := HR.out k (by omega)
      replace c0 := (hB.cell (p := ⟨g, o + k * 5, none⟩) hg).trans c0
      replace c1 := (hB.cell (p := ⟨g, o + k * 5 + 1, none⟩) hg).trans c1
      replace c2 := (hB.cell (p := ⟨g, o + k * 5 + 2, none⟩) hg).trans c2
      replace c3 := (hB.cell (p := ⟨g, o + k * 5 + 3, none⟩) hg).trans c3
      replace c4 := (hB.cell (p := ⟨g, o + k * 5 + 4, none⟩) hg).trans c4
      have zg : g < w2.heap.size := Nat.lt_of_lt_of_le hg hB.size
      obtain ⟨⟨G, O, T, F, U⟩, hV⟩ : ∃ z, V k = z := ⟨_, rfl⟩
      rw [hV] at c0 c1 c2 c3 c4
      simp only at c0 c1 c2 c3 c4
      have HV : Hid (V k = (G, O, T, F, U)) := hV
      have k1 : (k : Int) < (n : Int) := by omega
      clear hV hg
      by_cases e : G = q
      · subst e
        cases F
        case true =>
          have HO : Hid (firV x n V G = k) := HF.out.trans (fir_hit HP.out (by rw [HV.out]; simp [hitB]) (by omega))
          go_wp2
          go_ret
          exact ⟨ret_int HO.out.symm, (by repeat (first | with_reducible exact Below.refl _ _ | with_reducible exact hB | with_reducible refine Below.setCell ?_ (by first | omega | (simp; done) | (simp; omega)) _ | with_reducible refine bDrewN ?_ _ | with_reducible refine Below.drew ?_ | with_reducible refine Below.alloc ?_ (by first | omega | (simp; done) | (simp; omega)) _))⟩
        case false =>
          have HN : Hid (firTo V G (k + 1) = -1) := fir_on HP.out (by rw [HV.out]; rfl)
          go_wp2
          go_roundw
          case rel => exact ⟨k + 1, .inr ⟨H0.out, by omega⟩, by go_num, HN.out, p0, p1, zp, (by repeat (first | with_reducible exact Below.refl _ _ | with_reducible exact hB | with_reducible refine Below.setCell ?_ (by first | omega | (simp; done) | (simp; omega)) _ | with_reducible refine bDrewN ?_ _ | with_reducible refine Below.drew ?_ | with_reducible refine Below.alloc ?_ (by first | omega | (simp; done) | (simp; omega)) _))⟩
          case measure => first | (simp [intOf]; done) | (simp [intOf]; omega)
      · have e' : (G == q) = false := by simpa using e
        have HN : Hid (firTo V q (k + 1) = -1) := fir_on HP.out (by rw [HV.out]; simp [hitB, e])
        clear e
        go_wp2
        go_roundw
        case rel => exact ⟨k + 1, .inr ⟨H0.out, by omega⟩, by go_num, HN.out, p0, p1, zp, (by repeat (first | with_reducible exact Below.refl _ _ | with_reducible exact hB | with_reducible refine Below.setCell ?_ (by first | omega | (simp; done) | (simp; omega)) _ | with_reducible refine bDrewN ?_ _ | with_reducible refine Below.drew ?_ | with_reducible refine Below.alloc ?_ (by first | omega | (simp; done) | (simp; omega)) _))⟩
        case measure => first | (simp [intOf]; done) | (simp [intOf]; omega)
    · obtain rfl : k = n := by omega
      have HO : Hid (firV x k V q = -1) := HF.out.trans HP.out
      go_wp2
      go_ret
      exact ⟨ret_int HO.out.symm, hB⟩
end Go.Proofs.Ytlbbdifmjdpfiaa
