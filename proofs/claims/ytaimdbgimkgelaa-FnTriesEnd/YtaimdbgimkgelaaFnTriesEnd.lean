/-
What is proved: a burner that begins off, with start, air and gas in each of 40 cycles and no flame, is locked at the end, its valve having been open in 9 cycles; with a flame behind each open valve it is on; at every code, no condition.
-/
import Derived.Test.YtaimdbgimkgelaaBuI
import Derived.Test.YtaimdbgimkgelaaOpen8
namespace Go.Proofs.Ytaimdbgimkgelaa
set_option maxRecDepth 40000
open Go.ChangeShapes Go.WideShapes Go.ChangeAt Go.RowKit
set_option linter.unusedVariables false
set_option linter.unusedSimpArgs false

def nx (p : Int × Int × Int) (fl : Bool) : Int × Int × Int := nextV p.1 p.2.1 p.2.2 true true fl true false false
def it1 : Nat → Int × Int × Int
  | 0 => (0, 0, 0)
  | k + 1 => nx (it1 k) false
def it2 : Nat → Int × Int × Int
  | 0 => (0, 0, 0)
  | k + 1 => nx (it2 k) (valveB (it2 k).1)
def cn1 : Nat → Int
  | 0 => 0
  | k + 1 => cn1 k + (if valveB (it1 (k + 1)).1 = true then 1 else 0)
theorem it1_ok : ∀ k, okB (it1 k).1 (it1 k).2.1 (it1 k).2.2 = true
  | 0 => by decide
  | k + 1 => next_ok (it1_ok k) true true false true false false
theorem it2_ok : ∀ k, okB (it2 k).1 (it2 k).2.1 (it2 k).2.2 = true
  | 0 => by decide
  | k + 1 => next_ok (it2_ok k) true true (valveB (it2 k).1) true false false
theorem cn1_rng : ∀ k : Nat, 0 ≤ cn1 k ∧ cn1 k ≤ k
  | 0 => by decide
  | k + 1 => by
    have := cn1_rng k
    unfold cn1
    split <;> omega
theorem it1_end : it1 40 = (4, 0, 3) ∧ cn1 40 = 9 := by decide +kernel
theorem it2_end : it2 40 = (3, 0, 0) := by decide +kernel
theorem step_of (p : Int × Int × Int) (fl : Bool) (h : okB p.1 p.2.1 p.2.2 = true) (w : World) : Calls Try.prog 14 #[.agg #[.int .i64 p.1, .int .i64 p.2.1, .int .i64 p.2.2], .agg #[.bool true, .bool true, .bool fl, .bool true, .bool false, .bool false]] w fun e w' => e = .returned (.tuple #[.agg #[.int .i64 (nx p fl).1, .int .i64 (nx p fl).2.1, .int .i64 (nx p fl).2.2], .agg #[.bool (fanB (nx p fl).1), .bool (sparkB (nx p fl).1), .bool (valveB (nx p fl).1)], .bool true]) ∧ Below w.heap.size w w' := by
  have := implStep_any p.1 p.2.1 p.2.2 true true fl true false false w
  unfold stN stF stS stV at this
  rw [h] at this
  exact this
set_option maxHeartbeats 400000 in
theorem tries_far (w : World) (s : Option Addr) (n c : Nat) (h : (1048576 : Int) < n) :
    Calls Try.prog 7 #[.slice s n c] w fun e w' => e = .returned (.bool true) ∧ Below w.heap.size w w' := by
  go_enter Try.func7, Try.ntmps7
  go_wp2_with fail
  refine (big_yes _ _ _ _ h).mono ?_
  rintro e w1 ⟨rfl, rfl⟩
  go_wp2
  go_ret
  exact ⟨rfl, Below.refl _ _⟩
/-- A burner lies in a block of its own. -/
def BurAt (w : World) (b : Nat) (p : Int × Int × Int) : Prop := b < w.heap.size ∧ (w.cell? ⟨b, 0, none⟩ = some (.int .i64 p.1) ∧ w.cell? ⟨b, 1, none⟩ = some (.int .i64 p.2.1) ∧ w.cell? ⟨b, 2, none⟩ = some (.int .i64 p.2.2)) ∧ w.frozen? ⟨b, 0, none⟩ = false ∧ w.frozen? ⟨b, 1, none⟩ = false ∧ w.frozen? ⟨b, 2, none⟩ = false
theorem BurAt.below {w w' : World} {b : Nat} {p : Int × Int × Int} (h : BurAt w b p) (hb : Below w.heap.size w w') : BurAt w' b p := by
  obtain ⟨hz, ⟨h0, h1, h2⟩, f0, f1, f2⟩ := h
  exact ⟨Nat.lt_of_lt_of_le hz hb.size, ⟨(hb.cell (p := ⟨b, 0, none⟩) hz).trans h0, (hb.cell (p := ⟨b, 1, none⟩) hz).trans h1, (hb.cell (p := ⟨b, 2, none⟩) hz).trans h2⟩, (hb.frozen (p := ⟨b, 0, none⟩) hz).trans f0, (hb.frozen (p := ⟨b, 1, none⟩) hz).trans f1, (hb.frozen (p := ⟨b, 2, none⟩) hz).trans f2⟩
theorem BurAt.put {w : World} {b : Nat} {p : Int × Int × Int} {x y z : Int} (h : BurAt w b p) : BurAt (((w.setCell ⟨b, 0, none⟩ (.int .i64 x)).setCell ⟨b, 1, none⟩ (.int .i64 y)).setCell ⟨b, 2, none⟩ (.int .i64 z)) b (x, y, z) := by
  obtain ⟨hz, ⟨h0, h1, h2⟩, f0, f1, f2⟩ := h
  refine ⟨by simpa using hz, ⟨?_, ?_, ?_⟩, ?_, ?_, ?_⟩ <;> simp [go_sem, h0, h1, h2, f0, f1, f2]
set_option maxRecDepth 20000 in
set_option maxHeartbeats 8000000 in
theorem tries_near (w : World) (s : Option Addr) (n c : Nat) (h : (n : Int) ≤ 1048576) :
    Calls Try.prog 7 #[.slice s n c] w fun e w' => e = .returned (.bool true) ∧ Below w.heap.size w w' := by
  go_enter Try.func7, Try.ntmps7
  go_wp2_with fail
  refine (big_no _ _ _ _ h).mono ?_
  rintro e w1 ⟨rfl, rfl⟩
  go_wp2_with fail
  go_loopw [4, 5] (fun q i wr => ∃ j : Nat, j ≤ 40 ∧ i = .int .i64 j ∧ q = .int .i64 (cn1 j) ∧ Hid (BurAt wr w1.heap.size (it1 j)) ∧ Hid (Below w1.heap.size w1 wr)) (fun _ i _ => 40 - (intOf i).toNat)
  case atStart => exact ⟨0, by omega, rfl, rfl, (by refine ⟨by simp, ⟨?_, ?_, ?_⟩, ?_, ?_, ?_⟩ <;> simp [go_sem, it1]), (by show Below _ _ _; exact (by repeat (first | with_reducible exact Below.refl _ _ | with_reducible refine Below.setCell ?_ (by first | omega | (simp; done) | (simp; omega)) _ | with_reducible refine bDrewN ?_ _ | with_reducible refine Below.drew ?_ | with_reducible refine Below.alloc ?_ (by first | omega | (simp; done) | (simp; omega)) _)))⟩
  case round =>
    obtain ⟨j, hj, rfl, rfl, HA, HB⟩ := hrel
    by_cases h1 : j < 40
    case pos =>
      have k1 : (j : Int) < 40 := by omega
      have HS : Hid (∀ w, Calls Try.prog 14 #[.agg #[.int .i64 (it1 j).1, .int .i64 (it1 j).2.1, .int .i64 (it1 j).2.2], .agg #[.bool true, .bool true, .bool false, .bool true, .bool false, .bool false]] w fun e w' => e = .returned (.tuple #[.agg #[.int .i64 (it1 (j + 1)).1, .int .i64 (it1 (j + 1)).2.1, .int .i64 (it1 (j + 1)).2.2], .agg #[.bool (fanB (it1 (j + 1)).1), .bool (sparkB (it1 (j + 1)).1), .bool (valveB (it1 (j + 1)).1)], .bool true]) ∧ Below w.heap.size w w') := fun w => step_of (it1 j) false (it1_ok j) w
      obtain ⟨c0, c1⟩ := cn1_rng j
      have HC : Hid (cn1 (j + 1) = cn1 j + (if valveB (it1 (j + 1)).1 = true then 1 else 0)) := rfl
      have HN : Hid (∃ z, it1 (j + 1) = z) := ⟨_, rfl⟩
      obtain ⟨⟨y0, y1, y2⟩, hy⟩ := HN.out
      obtain ⟨⟨x0, x1, x2⟩, hx⟩ : ∃ z, it1 j = z := ⟨_, rfl⟩
      obtain ⟨o0, ho0⟩ : ∃ o0, fanB y0 = o0 := ⟨_, rfl⟩
      obtain ⟨o1, ho1⟩ : ∃ o1, sparkB y0 = o1 := ⟨_, rfl⟩
      obtain ⟨o2, ho2⟩ : ∃ o2, valveB y0 = o2 := ⟨_, rfl⟩
      rw [hx, hy] at HS
      rw [hx] at HA
      rw [hy] at HC
      rw [ho2] at HC
      rw [ho0, ho1, ho2] at HS
      have HY : Hid (it1 (j + 1) = (y0, y1, y2)) := hy
      clear hy hx HN ho0 ho1 ho2
      obtain ⟨qq, hq⟩ : ∃ qq, cn1 j = qq := ⟨_, rfl⟩
      rw [hq] at c0 c1 HC ⊢
      clear hq
      obtain ⟨z0, ⟨a0, a1, a2⟩, f0, f1, f2⟩ := HA.out
      have HA2 : Hid (BurAt wr w1.heap.size (x0, x1, x2)) := HA.out
      clear HA
      go_wp2_with fail
      refine (HS.out _).mono ?_
      rintro e w2 ⟨rfl, h2⟩
      have A2 : Hid (BurAt w2 w1.heap.size (x0, x1, x2)) := HA2.out.below h2
      obtain ⟨z2, ⟨b0, b1, b2⟩, g0, g1, g2⟩ := A2.out
      have B2 : Hid (Below w1.heap.size w1 w2) := HB.out.trans (h2.mono HB.out.size)
      clear h2 a0 a1 a2 f0 f1 f2 HA2
      cases o2
      all_goals
        go_wp2
        go_roundw
        case rel => exact ⟨j + 1, by omega, by go_num, by rw [HC.out]; simp, (by rw [HY.out]; show BurAt _ _ _; first | exact (A2.out.put).below (by repeat (first | with_reducible exact Below.refl _ _ | with_reducible refine Below.setCell ?_ (by first | omega | (simp; done) | (simp; omega)) _ | with_reducible refine bDrewN ?_ _ | with_reducible refine Below.drew ?_ | with_reducible refine Below.alloc ?_ (by first | omega | (simp; done) | (simp; omega)) _)) | exact (A2.out.below (by repeat (first | with_reducible exact Below.refl _ _ | with_reducible refine Below.setCell ?_ (by first | omega | (simp; done) | (simp; omega)) _ | with_reducible refine bDrewN ?_ _ | with_reducible refine Below.drew ?_ | with_reducible refine Below.alloc ?_ (by first | omega | (simp; done) | (simp; omega)) _))).put), (by show Below _ _ _; have B2 := B2.out; exact (by repeat (first | with_reducible exact Below.refl _ _ | with_reducible exact B2 | with_reducible refine Below.setCell ?_ (by first | omega | (simp; done) | (simp; omega)) _ | with_reducible refine bDrewN ?_ _ | with_reducible refine Below.drew ?_ | with_reducible refine Below.alloc ?_ (by first | omega | (simp; done) | (simp; omega)) _)))⟩
        case measure => simp [intOf]; omega
    case neg =>
      obtain rfl : j = 40 := by omega
      obtain ⟨E1, E2⟩ := it1_end
      rw [E1] at HA
      rw [E2]
      obtain ⟨z0, ⟨a0, a1, a2⟩, f0, f1, f2⟩ := HA.out
      clear E1 E2 HA
      have HB1 : Hid (Below w1.heap.size w1 wr) := HB
      rename World => w5
      go_wp2_with fail
      go_loopw [10, 11] (fun q i wr => ∃ j : Nat, j ≤ 40 ∧ i = .int .i64 j ∧ q = .bool (valveB (it2 j).1) ∧ Hid (BurAt wr w5.heap.size (it2 j)) ∧ Hid (Below w1.heap.size w1 wr)) (fun _ i _ => 40 - (intOf i).toNat)
      case atStart => exact ⟨0, by omega, rfl, rfl, (by refine ⟨by simp, ⟨?_, ?_, ?_⟩, ?_, ?_, ?_⟩ <;> simp [go_sem, it2]), (by show Below _ _ _; have B2 := HB1.out; have s2 := B2.size; exact (by repeat (first | with_reducible exact Below.refl _ _ | with_reducible exact B2 | with_reducible refine Below.setCell ?_ (by first | omega | (simp; done) | (simp; omega)) _ | with_reducible refine bDrewN ?_ _ | with_reducible refine Below.drew ?_ | with_reducible refine Below.alloc ?_ (by first | omega | (simp; done) | (simp; omega)) _)))⟩
      case round =>
        obtain ⟨j, hj, rfl, rfl, HA, HB⟩ := hrel
        by_cases h1 : j < 40
        case pos =>
          have k1 : (j : Int) < 40 := by omega
          have l5 := HB1.out.size
          have HS : Hid (∀ w, Calls Try.prog 14 #[.agg #[.int .i64 (it2 j).1, .int .i64 (it2 j).2.1, .int .i64 (it2 j).2.2], .agg #[.bool true, .bool true, .bool (valveB (it2 j).1), .bool true, .bool false, .bool false]] w fun e w' => e = .returned (.tuple #[.agg #[.int .i64 (it2 (j + 1)).1, .int .i64 (it2 (j + 1)).2.1, .int .i64 (it2 (j + 1)).2.2], .agg #[.bool (fanB (it2 (j + 1)).1), .bool (sparkB (it2 (j + 1)).1), .bool (valveB (it2 (j + 1)).1)], .bool true]) ∧ Below w.heap.size w w') := fun w => step_of (it2 j) _ (it2_ok j) w
          obtain ⟨⟨y0, y1, y2⟩, hy⟩ : ∃ z, it2 (j + 1) = z := ⟨_, rfl⟩
          obtain ⟨⟨x0, x1, x2⟩, hx⟩ : ∃ z, it2 j = z := ⟨_, rfl⟩
          obtain ⟨o0, ho0⟩ : ∃ o0, fanB y0 = o0 := ⟨_, rfl⟩
          obtain ⟨o1, ho1⟩ : ∃ o1, sparkB y0 = o1 := ⟨_, rfl⟩
          obtain ⟨o2, ho2⟩ : ∃ o2, valveB y0 = o2 := ⟨_, rfl⟩
          obtain ⟨vx, hvx⟩ : ∃ vx, valveB x0 = vx := ⟨_, rfl⟩
          rw [hx, hy] at HS
          rw [hx] at HA ⊢
          rw [ho0, ho1, ho2, hvx] at HS
          rw [hvx]
          have HY : Hid (it2 (j + 1) = (y0, y1, y2)) := hy
          have HV : Hid (valveB y0 = o2) := ho2
          clear hy hx ho0 ho1 ho2 hvx
          obtain ⟨z0, ⟨a0, a1, a2⟩, f0, f1, f2⟩ := HA.out
          have HA2 : Hid (BurAt wr w5.heap.size (x0, x1, x2)) := HA.out
          clear HA
          go_wp2_with fail
          refine (HS.out _).mono ?_
          rintro e w2 ⟨rfl, h2⟩
          have A2 : Hid (BurAt w2 w5.heap.size (x0, x1, x2)) := HA2.out.below h2
          obtain ⟨z2, ⟨b0, b1, b2⟩, g0, g1, g2⟩ := A2.out
          have B2 : Hid (Below w1.heap.size w1 w2) := HB.out.trans (h2.mono HB.out.size)
          clear h2 a0 a1 a2 f0 f1 f2 HA2
          go_wp2
          go_roundw
          case rel => exact ⟨j + 1, by omega, by go_num, by rw [HY.out]; rw [HV.out], (by rw [HY.out]; show BurAt _ _ _; first | exact (A2.out.put).below (by repeat (first | with_reducible exact Below.refl _ _ | with_reducible refine Below.setCell ?_ (by first | omega | (simp; done) | (simp; omega)) _ | with_reducible refine bDrewN ?_ _ | with_reducible refine Below.drew ?_ | with_reducible refine Below.alloc ?_ (by first | omega | (simp; done) | (simp; omega)) _)) | exact (A2.out.below (by repeat (first | with_reducible exact Below.refl _ _ | with_reducible refine Below.setCell ?_ (by first | omega | (simp; done) | (simp; omega)) _ | with_reducible refine bDrewN ?_ _ | with_reducible refine Below.drew ?_ | with_reducible refine Below.alloc ?_ (by first | omega | (simp; done) | (simp; omega)) _))).put), (by show Below _ _ _; have B2 := B2.out; exact (by repeat (first | with_reducible exact Below.refl _ _ | with_reducible exact B2 | with_reducible refine Below.setCell ?_ (by first | omega | (simp; done) | (simp; omega)) _ | with_reducible refine bDrewN ?_ _ | with_reducible refine Below.drew ?_ | with_reducible refine Below.alloc ?_ (by first | omega | (simp; done) | (simp; omega)) _)))⟩
          case measure => simp [intOf]; omega
        case neg =>
          obtain rfl : j = 40 := by omega
          have E2 := it2_end
          rw [E2] at HA ⊢
          obtain ⟨z0, ⟨a0, a1, a2⟩, f0, f1, f2⟩ := HA.out
          clear E2 HA
          have BF := HB.out
          go_wp2
          go_ret
          exact ⟨rfl, BF⟩
theorem fnTriesEnd_walk (w : World) (s : Option Addr) (n c : Nat) (hn : n ≤ 9223372036854775807) (R : Bytes w s n) :
    Calls Try.prog 7 #[.slice s n c] w fun e w' => e = .returned (.bool true) ∧ Below w.heap.size w w' := by
  by_cases h : n ≤ 1048576
  · exact tries_near w s n c (by omega)
  · exact tries_far w s n c (by omega)

set_option maxRecDepth 100000 in
theorem fnTriesEnd_lifted (os : Os) (started : os.Started) (H : Type) (enc : TypeId × Value → H) :
    ReturnsInHanded {} Try.checked os 7 .any (Rows.fnTriesEndSpec.pre6 enc Try.prog Try.f7 Rows.fnTriesEndRow.domain false) (Rows.fnTriesEndSpec.post enc Try.prog Try.f7 false true false false) := by
  refine returnsInHanded_of_change (C := Try.checked) own started (by kernel_rfl) Try.func7
    (ChangeSpec.witness6 (enc := enc) (C := Try.checked) false ⟨#[], #[.slice none 0 0], []⟩ 8 (by kernel_rfl) (by kernel_rfl) (by kernel_rfl) (by kernel_rfl)) ?_
  intro W base args ds gs before hval0 hW hcnd _
  have hval : ∀ (j : Nat) t v, Try.f7.params[j]? = some t → args[j]? = some v → Value.okWide Try.prog W .any base t v := hval0
  have hW' := hW
  obtain ⟨p, q, hA0, hV, rfl, hfz, hnd⟩ := hW
  have hA : DataW.TrodAll enc Try.prog W 0 (fun _ => true) true Try.f7.params.toList args.toList ds p := hA0
  rw [Try.params7] at hA hval
  obtain ⟨v0, vs0, d0, ds0, p0, q0, hargs, rfl, rfl, h0, r0⟩ := trodAll_cons hA
  obtain ⟨rfl, rfl, rfl⟩ := trodAll_nil r0
  obtain rfl : args = #[v0] := by cases args; simp_all
  obtain ⟨rfl, rfl⟩ := trodVars_none hV
  have k0 := h0
  have lt0 : ∀ x ∈ p0, x.block < W.heap.size := by obtain ⟨m, hm⟩ := k0; exact DataW.trod_lt m _ _ _ hm
  obtain ⟨s0, n0, c0, rfl, m0, R0⟩ := open_code Try.underlying58 Try.underlying5 (by kernel_rfl) (hval 0 58 v0 rfl rfl) h0
  clear hA0 hval0
  refine (fnTriesEnd_walk W s0 n0 c0 m0 R0).mono fun e W' ⟨he, bel⟩ => ?_
  subst he
  exact ⟨_, rfl, _, _, _, [], _, [], hW', trodAll_mk1 (shut_bool Try.underlying4 _), (trodAll_cons_mk (Below.trod laidOut (by kernel_rfl) (of_decide_eq_true (by kernel_rfl)) k0 bel lt0) trodAll_mk0), rfl, bel.frame _, fun h => by cases h⟩

theorem fnTriesEnd_holds : Rows.FnTriesEndSaid :=
  OpenClaim.holds_of_wide 7 Try.f7 rfl rfl rfl rfl rfl rfl rfl ⟨rfl, rfl, rfl, rfl, rfl⟩ rfl rfl rfl rfl rfl (by kernel_rfl) Try.func7 (by kernel_rfl)
    (of_decide_eq_true (by kernel_rfl)) (by unfold Func.isWrapper; first | (rw [if_pos (by decide +kernel)]; kernel_rfl) | (rw [if_neg (by decide +kernel)]; exact ⟨rfl, rfl⟩))
    (fun os started H enc _ => fnTriesEnd_lifted os started H enc)
#print axioms fnTriesEnd_holds
end Go.Proofs.Ytaimdbgimkgelaa
