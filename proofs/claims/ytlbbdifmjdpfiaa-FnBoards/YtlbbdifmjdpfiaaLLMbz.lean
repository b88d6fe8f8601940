/-
What is proved: a list of lists that the law owns, marked by its helper; one that is marked, asked.
-/
import Derived.Test.YtlbbdifmjdpfiaaLLEbz
namespace Go.Proofs.Ytlbbdifmjdpfiaa
set_option maxRecDepth 40000
open Go.RowKit
set_option linter.unusedVariables false
set_option linter.unusedSimpArgs false

def mkV (k : Int) (K : Nat → Nat) (i j : Nat) : Int := k + (suK K i : Int) + (j : Int)
def miV (m : Nat) (k : Int) (K : Nat → Nat) (V : Nat → Nat → Int) (i j : Nat) : Int := if i < m then mkV k K i j else V i j
/-- One of the lists marked: the others are as they were. -/
theorem ll_mark {S : Nat → Prop} {w w' : World} {s : Option Addr} {n m : Nat} {k : Int} {K : Nat → Nat} {V : Nat → Nat → Int} (h : OwnLL S w s n K (miV m k K V)) (hm : m < n)
    (h2 : ∀ x, (∃ b c, s = some ⟨b, 0, none⟩ ∧ w.cell? ⟨b, m, none⟩ = some (.slice (some ⟨x, 0, none⟩) (K m) c)) → 0 < K m → Beside x w w' ∧ ∀ j, j < K m → w'.cell? ⟨x, j, none⟩ = some (.int .i64 (mkV k K m j)) ∧ w'.frozen? ⟨x, j, none⟩ = false) (h0 : K m = 0 → w' = w) : OwnLL S w' s n K (miV (m + 1) k K V) ∧ Turn S w w' := by
  by_cases z : K m = 0
  · rw [h0 z]
    refine ⟨?_, Turn.refl _ _⟩
    obtain ⟨A, hA, hi⟩ := h
    refine ⟨A, fun i q => ?_, hi⟩
    obtain ⟨b, a, c, e, g1, hl, hf, hc, hr⟩ := hA i q
    refine ⟨b, a, c, e, g1, hl, hf, hc, fun p => ?_⟩
    obtain ⟨ea, n1, n2, n3, hv⟩ := hr p
    refine ⟨ea, n1, n2, n3, fun j hj => ⟨?_, (hv j hj).2⟩⟩
    have ne : i ≠ m := fun q => by rw [q] at p; omega
    rw [(hv j hj).1]
    unfold miV
    by_cases q1 : i < m
    · rw [if_pos q1, if_pos (by omega)]
    · rw [if_neg q1, if_neg (by omega)]
  · obtain ⟨A, hA, hi⟩ := h
    obtain ⟨bm, am, cm, em, g1m, hlm, hfm, hcm, hrm⟩ := hA m hm
    obtain ⟨eam, n1m, n2m, n3m, hvm⟩ := hrm (by omega)
    subst eam
    obtain ⟨bs, hmk⟩ := h2 (A m) ⟨bm, cm, em, hcm⟩ (by omega)
    refine ⟨⟨A, fun i q => ?_, hi⟩, Turn.of bs n2m⟩
    obtain ⟨b, a, c, e, g1, hl, hf, hc, hr⟩ := hA i q
    have eb : b = bm := by rw [em] at e; cases e; rfl
    subst eb
    have zb : b < w.heap.size := by omega
    refine ⟨b, a, c, e, g1, Nat.lt_of_lt_of_le hl bs.2.2.2.1, fun o => (bs.frozen (p := ⟨b, o, none⟩) zb (Ne.symm n1m)).trans (hf o), (bs.cell (p := ⟨b, i, none⟩) zb (Ne.symm n1m)).trans hc, fun p => ?_⟩
    obtain ⟨ea, n1, n2, n3, hv⟩ := hr p
    refine ⟨ea, n1, n2, Nat.lt_of_lt_of_le n3 bs.2.2.2.1, fun j hj => ?_⟩
    by_cases q1 : i = m
    · subst q1
      have := hmk j hj
      unfold miV
      rw [if_pos (by omega)]
      exact this
    · have nA : A i ≠ A m := fun q2 => q1 (hi i m q hm p (by omega) q2)
      have zA : A i < w.heap.size := by omega
      refine ⟨(bs.cell (p := ⟨A i, j, none⟩) zA nA).trans ?_, (bs.frozen (p := ⟨A i, j, none⟩) zA nA).trans (hv j hj).2⟩
      rw [(hv j hj).1]
      unfold miV
      by_cases q3 : i < m
      · rw [if_pos q3, if_pos (by omega)]
      · rw [if_neg q3, if_neg (by omega)]
set_option maxRecDepth 20000 in
set_option maxHeartbeats 4000000 in
theorem markInt64SS_own (S : Nat → Prop) (s : Option Addr) (n c : Nat) (k : Int) (K : Nat → Nat) (V : Nat → Nat → Int) (w : World) (hn : (n : Int) ≤ 1048576) (hsu : (suK K n : Int) ≤ 1048576) (k0 : 0 ≤ k) (k1 : k ≤ 10000000) (HR : Hid (OwnLL S w s n K V)) :
    Calls Try.prog 26 #[.slice s n c, .int .i64 k] w fun e w' => e = .returned (.int .i64 (k + (suK K n : Int))) ∧ OwnLL S w' s n K (mkV k K) ∧ Turn S w w' := by
  go_enter Try.func26, Try.ntmps26
  go_wp2_with fail
  go_loopw [1, 5] (fun q i wr => ∃ m : Nat, m ≤ n ∧ i = .int .i64 m ∧ q = .int .i64 (k + (suK K m : Int)) ∧ Hid (OwnLL S wr s n K (miV m k K V)) ∧ Hid (Turn S w wr)) (fun _ i _ => n - (intOf i).toNat)
  case atStart => exact ⟨0, Nat.zero_le _, rfl, by simp [suK], (by have e : miV 0 k K V = V := by { funext i j; unfold miV; rw [if_neg (Nat.not_lt_zero i)] }; rw [e]; exact HR.out), Turn.refl _ _⟩
  case round =>
    obtain ⟨m, hm, rfl, rfl, HO, HG⟩ := hrel
    by_cases h1 : m < n
    · have su := suK_in (K := K) h1
      have e1 : suK K (m + 1) = suK K m + K m := rfl
      have HL := HO.out
      obtain ⟨A, hA, -⟩ := HL
      obtain ⟨b, a, cc, rfl, g1, hl, hf, hc, hr⟩ := hA m h1
      have zb : b < wr.heap.size := by omega
      have k2 : (m : Int) < (n : Int) := by omega
      obtain ⟨x, hx⟩ : ∃ x, k + (suK K m : Int) = x := ⟨_, rfl⟩
      have HX : Hid (k + (suK K (m + 1) : Int) = x + (K m : Int)) := by show _ = _; rw [e1]; omega
      have HXX : Hid (k + (suK K m : Int) = x) := hx
      have x0 : 0 ≤ x := by omega
      have x1 : x ≤ 100000000 := by omega
      have km : (K m : Int) ≤ 1048576 := by omega
      rw [hx]
      clear hx e1 su hf g1 hA
      by_cases z : K m = 0
      · have HM : Hid (OwnLL S wr (some ⟨b, 0, none⟩) n K (miV (m + 1) k K V) ∧ Turn S wr wr) := ll_mark HO.out h1 (fun _ _ q => by omega) (fun _ => rfl)
        rw [z] at hc HX
        simp only [Int.natCast_zero, Int.add_zero] at HX
        clear hr
        go_wp2_with fail
        refine (markInt64S_nil a cc x _).mono ?_
        rintro e w1 ⟨rfl, rfl⟩
        go_wp2
        go_roundw
        case rel => exact ⟨m + 1, by omega, by go_num, by rw [HX.out], HM.out.1, HG.out⟩
        case measure => first | (simp [intOf]; done) | (simp [intOf]; omega)
      · obtain ⟨rfl, n1, n2, n3, hv⟩ := hr (by omega)
        have HV : Hid (∀ j, j < K m → wr.cell? ⟨A m, j, none⟩ = some (.int .i64 (miV m k K V m j)) ∧ wr.frozen? ⟨A m, j, none⟩ = false) := hv
        have zA : A m < wr.heap.size := by omega
        obtain ⟨y, hy⟩ : ∃ y, A m = y := ⟨_, rfl⟩
        rw [hy] at hc HV zA n1
        have HMK : Hid (∀ w', Beside y wr w' → (∀ j, j < K m → w'.cell? ⟨y, j, none⟩ = some (.int .i64 (x + (j : Int))) ∧ w'.frozen? ⟨y, j, none⟩ = false) → OwnLL S w' (some ⟨b, 0, none⟩) n K (miV (m + 1) k K V) ∧ Turn S wr w') := fun w' hb hq => ll_mark HO.out h1 (fun x' hx' _ => by
          obtain ⟨b', c', eb, hc'⟩ := hx'
          cases eb
          rw [hc] at hc'
          cases hc'
          refine ⟨hb, fun j hj => ?_⟩
          unfold mkV
          rw [HXX.out]
          exact hq j hj) (fun q => absurd q z)
        obtain ⟨l, hl2⟩ : ∃ l, K m = l := ⟨_, rfl⟩
        rw [hl2] at hc HV HMK HX km
        clear hl2 hv hy n2 n3
        go_wp2_with fail
        refine (markInt64S_at y l cc x (miV m k K V m) _ km x0 x1 zA HV).mono ?_
        rintro e w1 ⟨rfl, hB, hf1, hc1⟩
        have HM := HMK.out w1 hB (fun j hj => ⟨by rw [hc1 j hj, if_pos hj], hf1 j hj⟩)
        have HM1 : Hid (OwnLL S w1 (some ⟨b, 0, none⟩) n K (miV (m + 1) k K V)) := HM.1
        have HM2 : Hid (Turn S w w1) := HG.out.trans HM.2
        clear HM hB hf1 hc1
        go_wp2
        go_roundw
        case rel => exact ⟨m + 1, by omega, by go_num, by rw [HX.out], HM1.out, HM2.out⟩
        case measure => first | (simp [intOf]; done) | (simp [intOf]; omega)
    · obtain rfl : m = n := by omega
      have HE : Hid (OwnLL S wr s m K (mkV k K)) := by
        obtain ⟨A, hA, hi⟩ := HO.out
        refine ⟨A, fun i q => ?_, hi⟩
        obtain ⟨b, a, c, e, g1, hl, hf, hc, hr⟩ := hA i q
        refine ⟨b, a, c, e, g1, hl, hf, hc, fun p => ?_⟩
        obtain ⟨ea, n1, n2, n3, hv⟩ := hr p
        refine ⟨ea, n1, n2, n3, fun j hj => ⟨?_, (hv j hj).2⟩⟩
        rw [(hv j hj).1]
        unfold miV
        rw [if_pos q]
      go_wp2
      go_ret
      exact ⟨ret_int rfl, HE.out, HG.out⟩
set_option maxRecDepth 20000 in
set_option maxHeartbeats 2000000 in
theorem heldInt64SS_any (s : Option Addr) (n c : Nat) (k : Int) (K : Nat → Nat) (w : World) (hn : (n : Int) ≤ 1048576) (hsu : (suK K n : Int) ≤ 1048576) (k0 : 0 ≤ k) (k1 : k ≤ 10000000) (HR : Hid (RowLL w s n K (mkV k K))) :
    Calls Try.prog 27 #[.slice s n c, .int .i64 k] w fun e w' => e = .returned (.int .i64 (k + (suK K n : Int))) ∧ w' = w := by
  go_enter Try.func27, Try.ntmps27
  go_wp2_with fail
  go_loopw [1, 5] (fun q i wr => ∃ m : Nat, m ≤ n ∧ i = .int .i64 m ∧ q = .int .i64 (k + (suK K m : Int)) ∧ wr = w) (fun _ i _ => n - (intOf i).toNat)
  case atStart => exact ⟨0, Nat.zero_le _, rfl, by simp [suK], rfl⟩
  case round =>
    obtain ⟨m, hm, rfl, rfl, rfl⟩ := hrel
    by_cases h1 : m < n
    · have su := suK_in (K := K) h1
      have e1 : suK K (m + 1) = suK K m + K m := rfl
      obtain ⟨b, o, a, cc, rfl, hb, hc, hr⟩ := HR.out m h1
      have k2 : (m : Int) < (n : Int) := by omega
      obtain ⟨x, hx⟩ : ∃ x, k + (suK K m : Int) = x := ⟨_, rfl⟩
      have HX : Hid (k + (suK K (m + 1) : Int) = x + (K m : Int)) := by show _ = _; rw [e1]; omega
      have HV : Hid (RowI wr a (K m) (fun j : Nat => x + (j : Int))) := by
        have e2 : mkV k K m = fun j : Nat => x + (j : Int) := by funext j; unfold mkV; rw [hx]
        rw [← e2]; exact hr
      have x0 : 0 ≤ x := by omega
      have x1 : x ≤ 100000000 := by omega
      have km : (K m : Int) ≤ 1048576 := by omega
      have xn : decide (x + (K m : Int) < 0) = false := decide_eq_false (by omega)
      rw [hx]
      obtain ⟨l, hl2⟩ : ∃ l, K m = l := ⟨_, rfl⟩
      rw [hl2] at hc HV HX km xn
      clear hx e1 su hr hl2
      go_wp2_with fail
      refine (heldInt64S_any a l cc x _ km x0 x1 HV).mono ?_
      rintro e w1 ⟨rfl, rfl⟩
      go_wp2
      go_roundw
      case rel => exact ⟨m + 1, by omega, by go_num, by rw [HX.out], by first | rfl | trivial⟩
      case measure => first | (simp [intOf]; done) | (simp [intOf]; omega)
    · obtain rfl : m = n := by omega
      go_wp2
      go_ret
      exact ⟨ret_int rfl, rfl⟩
end Go.Proofs.Ytlbbdifmjdpfiaa
