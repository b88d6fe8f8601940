/-
What is proved: a list of alarms marked, told exactly, and asked whether it is marked; a board's.
-/
import Derived.Test.YtlbbdifmjdpfiaaBsM
import Derived.Test.YtlbbdifmjdpfiaaAlR
import Derived.Test.YtlbbdifmjdpfiaaBdT
namespace Go.Proofs.Ytlbbdifmjdpfiaa
set_option maxRecDepth 40000
open Go.ChangeShapes Go.WideShapes Go.ChangeAt Go.RowKit
set_option linter.unusedVariables false
set_option linter.unusedSimpArgs false

def mkA5 (x : Int) : Int × Int × Int × Bool × Int := (x, x + 1, x + 1 + 1, (x + 1 + 1 + 1) % 3 == 0, x + 1 + 1 + 1 + 1)
def mkA (k : Int) (j : Nat) : Int × Int × Int × Bool × Int := mkA5 (k + (j * 5 : Nat))
def miA (m : Nat) (k : Int) (V : Nat → Int × Int × Int × Bool × Int) (i : Nat) : Int × Int × Int × Bool × Int := if i < m then mkA k i else V i
theorem miA_on {m : Nat} {k : Int} {V : Nat → Int × Int × Int × Bool × Int} : upd (miA m k V) m (mkA k m) = miA (m + 1) k V := by
  funext i
  unfold upd miA
  by_cases e : i = m
  · subst e; simp
  · rw [if_neg e]
    by_cases q : i < m
    · rw [if_pos q, if_pos (by omega)]
    · rw [if_neg q, if_neg (by omega)]
set_option maxRecDepth 20000 in
set_option maxHeartbeats 4000000 in
theorem markAlarmS_xat (b n c : Nat) (k : Int) (V : Nat → Int × Int × Int × Bool × Int) (w : World) (hn : (n : Int) ≤ 1048576) (k0 : 0 ≤ k) (k1 : k ≤ 40000000) (HM : Hid (AlM b w n V)) :
    Calls Try.prog 57 #[.slice (some ⟨b, 0, none⟩) n c, .int .i64 k] w fun e w' => e = .returned (.int .i64 (k + (n * 5 : Nat))) ∧ AlM b w' n (mkA k) ∧ Beside b w w' := by
  go_enter Try.func57, Try.ntmps57
  go_wp2_with fail
  go_loopw [1, 5] (fun q i wr => ∃ j : Nat, j ≤ n ∧ i = .int .i64 j ∧ q = .int .i64 (k + (j * 5 : Nat)) ∧ AlM b wr n (miA j k V) ∧ Beside b w wr) (fun _ i _ => n - (intOf i).toNat)
  case atStart => exact ⟨0, Nat.zero_le _, rfl, by simp, (by have e : miA 0 k V = V := by { funext i; unfold miA; rw [if_neg (Nat.not_lt_zero i)] }; rw [e]; exact HM.out), Beside.of (Below.refl _ _)⟩
  case round =>
    obtain ⟨j, hj, rfl, rfl, hA, hB⟩ := hrel
    have HA : Hid (AlM b wr n (miA j k V)) := hA
    have HB : Hid (Beside b w wr) := hB
    by_cases h1 : j < n
    · obtain ⟨zb, hf, hc⟩ := hA
      obtain ⟨e0, e1, e2, e3, e4⟩ := hc j h1
      have f0 := hf (j * 5)
      have f1 := hf (j * 5 + 1)
      have f2 := hf (j * 5 + 2)
      have f3 := hf (j * 5 + 3)
      have f4 := hf (j * 5 + 4)
      have kn : (j : Int) < (n : Int) := by omega
      obtain ⟨x, hx⟩ : ∃ x, k + ((j * 5 : Nat) : Int) = x := ⟨_, rfl⟩
      have HX : Hid (k + ((j * 5 : Nat) : Int) = x) := hx
      have x0 : 0 ≤ x := by omega
      have x1 : x ≤ 100000000 := by omega
      rw [hx]
      have HN : Hid (k + (((j + 1) * 5 : Nat) : Int) = x + 1 + 1 + 1 + 1 + 1) := by show _ = _; rw [← HX.out]; omega
      have HS : Hid (AlM b (((((wr.setCell ⟨b, j * 5, none⟩ (.int .i64 x)).setCell ⟨b, j * 5 + 1, none⟩ (.int .i64 (x + 1))).setCell ⟨b, j * 5 + 2, none⟩ (.int .i64 (x + 1 + 1))).setCell ⟨b, j * 5 + 3, none⟩ (.bool ((x + 1 + 1 + 1) % 3 == 0))).setCell ⟨b, j * 5 + 4, none⟩ (.int .i64 (x + 1 + 1 + 1 + 1))) n (miA (j + 1) k V)) := by
        have := HA.out.on h1 x (x + 1) (x + 1 + 1) ((x + 1 + 1 + 1) % 3 == 0) (x + 1 + 1 + 1 + 1)
        rw [← miA_on]
        show AlM b _ n (upd (miA j k V) j (mkA5 (k + ((j * 5 : Nat) : Int))))
        rw [HX.out]
        exact this
      have HS2 : Hid (Beside b w (((((wr.setCell ⟨b, j * 5, none⟩ (.int .i64 x)).setCell ⟨b, j * 5 + 1, none⟩ (.int .i64 (x + 1))).setCell ⟨b, j * 5 + 2, none⟩ (.int .i64 (x + 1 + 1))).setCell ⟨b, j * 5 + 3, none⟩ (.bool ((x + 1 + 1 + 1) % 3 == 0))).setCell ⟨b, j * 5 + 4, none⟩ (.int .i64 (x + 1 + 1 + 1 + 1)))) := HB.out.trans set5_beside
      clear hx hc hf hB
      go_wp2
      go_roundw
      case rel => exact ⟨j + 1, by omega, by go_num, by rw [HN.out], by simpa only [Int.add_assoc] using HS.out, by simpa only [Int.add_assoc] using HS2.out⟩
      case measure => first | (simp [intOf]; done) | (simp [intOf]; omega)
    · obtain rfl : j = n := by omega
      have HS : Hid (AlM b wr j (mkA k)) := hA.congr (fun i hi => by unfold miA; rw [if_pos hi])
      go_wp2
      go_ret
      exact ⟨rfl, HS.out, hB⟩
theorem markAlarmS_x (S : Nat → Prop) (s : Option Addr) (n c : Nat) (k : Int) (V : Nat → Int × Int × Int × Bool × Int) (w : World) (hn : (n : Int) ≤ 1048576) (k0 : 0 ≤ k) (k1 : k ≤ 40000000) (HR : AlarmR S w s n V) :
    Calls Try.prog 57 #[.slice s n c, .int .i64 k] w fun e w' => e = .returned (.int .i64 (k + (n * 5 : Nat))) ∧ AlarmR S w' s n (mkA k) ∧ Turn S w w' := by
  by_cases h : n = 0
  · subst h
    refine (markAlarmS_nil s c k w).mono ?_
    rintro e w' ⟨rfl, rfl⟩
    exact ⟨by simp, ⟨fun j hj => by omega, fun q => by omega⟩, Turn.refl _ _⟩
  · obtain ⟨b, rfl, -, hl, hf, -⟩ := HR.1 0 (by omega)
    have hb := HR.2 (by omega) b rfl
    have HM : AlM b w n V := ⟨hl, hf, fun j hj => by obtain ⟨b', e', _, _, _, r⟩ := HR.1 j hj; cases e'; exact r⟩
    refine (markAlarmS_xat b n c k V w hn k0 k1 HM).mono ?_
    rintro e w' ⟨rfl, hA, hB⟩
    exact ⟨rfl, ⟨hA.own.mono (Nat.zero_le _), HR.2⟩, Turn.of hB hb⟩
set_option maxRecDepth 20000 in
set_option maxHeartbeats 4000000 in
theorem heldAlarmS_r (s : Option Addr) (n c : Nat) (k : Int) (w : World) (hn : (n : Int) ≤ 1048576) (k0 : 0 ≤ k) (k1 : k ≤ 40000000) (HR : Hid (RowAlarm w s n (mkA k))) :
    Calls Try.prog 60 #[.slice s n c, .int .i64 k] w fun e w' => e = .returned (.int .i64 (k + (n * 5 : Nat))) ∧ w' = w := by
  go_enter Try.func60, Try.ntmps60
  go_wp2_with fail
  go_loop [1, 5] (fun q i => ∃ j : Nat, j ≤ n ∧ i = .int .i64 j ∧ q = .int .i64 (k + (j * 5 : Nat))) (fun _ i => n - (intOf i).toNat)
  case atStart => exact ⟨0, Nat.zero_le _, rfl, by simp⟩
  case round =>
    obtain ⟨j, hj, rfl, rfl⟩ := hrel
    by_cases h1 : j < n
    · obtain ⟨g, o, rfl, hg, c0, c1, c2, c3, c4⟩ := HR.out j h1
      have kn : (j : Int) < (n : Int) := by omega
      obtain ⟨x, hx⟩ : ∃ x, k + ((j * 5 : Nat) : Int) = x := ⟨_, rfl⟩
      have HN : Hid (k + (((j + 1) * 5 : Nat) : Int) = x + 1 + 1 + 1 + 1 + 1) := by show _ = _; rw [← hx]; omega
      have x0 : 0 ≤ x := by omega
      have x1 : x ≤ 100000000 := by omega
      unfold mkA at c0 c1 c2 c3 c4
      rw [hx] at c0 c1 c2 c3 c4 ⊢
      unfold mkA5 at c0 c1 c2 c3 c4
      simp only at c0 c1 c2 c3 c4
      obtain ⟨fb, hfb⟩ : ∃ fb, ((x + 1 + 1 + 1) % 3 == 0) = fb := ⟨_, rfl⟩
      rw [hfb] at c3
      have hfb2 : ((x + 3) % 3 == 0) = fb := by rw [← hfb, show x + 1 + 1 + 1 = x + 3 by omega]
      clear hx
      cases fb
      all_goals
        go_wp2
        go_round
        case rel => exact ⟨j + 1, by omega, by go_num, by rw [HN.out]⟩
        case measure => simp [intOf]; omega
    · obtain rfl : j = n := by omega
      go_wp2
      go_ret
      exact ⟨rfl, rfl⟩
set_option maxHeartbeats 1000000 in
theorem markBoard_x (x0 : Int) (n1 : Nat) (V1 : Nat → Int × Int × Int × Bool × Int) (s1 : Option Addr) (c1 : Nat) (S : Nat → Prop) (k : Int) (w : World) (hn1 : (n1 : Int) ≤ 1048576) (k0 : 0 ≤ k) (k1 : k ≤ 40000000) (hS : ∀ q, S q → q < w.heap.size) (HR : Hid (BoardR S w s1 n1 V1)) :
    Calls Try.prog 24 #[.agg #[.int .i64 x0, .slice s1 n1 c1], .int .i64 k] w fun e w' => e = .returned (.int .i64 (k + (n1 * 5 : Nat))) ∧ BoardR S w' s1 n1 (mkA k) ∧ Turn S w w' := by
  have HA : Hid (AlarmR S w s1 n1 V1) := HR
  go_enter Try.func24, Try.ntmps24
  go_wp2_with fail
  refine (markAlarmS_x S s1 n1 c1 k V1 _ hn1 k0 k1 (HA.out.below (by repeat (first | with_reducible exact Below.refl _ _ | with_reducible refine Below.setCell ?_ (by first | omega | (simp; done) | (simp; omega)) _ | with_reducible refine bDrewN ?_ _ | with_reducible refine Below.drew ?_ | with_reducible refine Below.alloc ?_ (by first | omega | (simp; done) | (simp; omega)) _)))).mono ?_
  rintro e w1 ⟨rfl, O, T⟩
  have HO : Hid (BoardR S w1 s1 n1 (mkA k)) := O
  have HT : Hid (Turn S w w1) := (Turn.grown (by repeat (first | with_reducible exact Below.refl _ _ | with_reducible refine Below.setCell ?_ (by first | omega | (simp; done) | (simp; omega)) _ | with_reducible refine bDrewN ?_ _ | with_reducible refine Below.drew ?_ | with_reducible refine Below.alloc ?_ (by first | omega | (simp; done) | (simp; omega)) _))).trans T
  clear O T
  go_wp2
  go_ret
  exact ⟨rfl, HO.out, HT.out⟩
set_option maxHeartbeats 1000000 in
theorem heldBoard_r (x0 : Int) (n1 : Nat) (V1 : Nat → Int × Int × Int × Bool × Int) (s1 : Option Addr) (c1 : Nat) (k : Int) (w : World) (hn1 : (n1 : Int) ≤ 1048576) (k0 : 0 ≤ k) (k1 : k ≤ 40000000) (HR : Hid (RowBoard w s1 n1 (mkA k))) :
    Calls Try.prog 28 #[.agg #[.int .i64 x0, .slice s1 n1 c1], .int .i64 k] w fun e w' => e = .returned (.int .i64 (k + (n1 * 5 : Nat))) ∧ Below w.heap.size w w' := by
  have HA : Hid (RowAlarm w s1 n1 (mkA k)) := HR
  have kn : decide (k + ((n1 * 5 : Nat) : Int) < 0) = false := decide_eq_false (by omega)
  obtain ⟨y, hy⟩ : ∃ y, k + ((n1 * 5 : Nat) : Int) = y := ⟨_, rfl⟩
  rw [hy] at kn ⊢
  have HY : Hid (k + ((n1 * 5 : Nat) : Int) = y) := hy
  clear hy
  go_enter Try.func28, Try.ntmps28
  go_wp2_with fail
  refine (heldAlarmS_r s1 n1 c1 k _ hn1 k0 k1 (HA.out.below (by repeat (first | with_reducible exact Below.refl _ _ | with_reducible refine Below.setCell ?_ (by first | omega | (simp; done) | (simp; omega)) _ | with_reducible refine bDrewN ?_ _ | with_reducible refine Below.drew ?_ | with_reducible refine Below.alloc ?_ (by first | omega | (simp; done) | (simp; omega)) _)))).mono ?_
  rintro e w1 ⟨rfl, rfl⟩
  rw [HY.out]
  go_wp2
  go_ret
  exact ⟨rfl, (by repeat (first | with_reducible exact Below.refl _ _ | with_reducible refine Below.setCell ?_ (by first | omega | (simp; done) | (simp; omega)) _ | with_reducible refine bDrewN ?_ _ | with_reducible refine Below.drew ?_ | with_reducible refine Below.alloc ?_ (by first | omega | (simp; done) | (simp; omega)) _))⟩
end Go.Proofs.Ytlbbdifmjdpfiaa
