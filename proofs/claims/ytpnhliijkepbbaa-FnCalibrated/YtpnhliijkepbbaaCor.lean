/-
What is proved: numbers that are corrected, as both packages tell them.
-/
import Derived.Test.YtpnhliijkepbbaaF64T
namespace Go.Proofs.Ytpnhliijkepbbaa
set_option maxRecDepth 40000
open Go.RowKit
set_option linter.unusedVariables false
set_option linter.unusedSimpArgs false

def corO (V : Nat → Option Nat) (p q : Option Nat) (j : Nat) : Option Nat := opO .add (opO .mul (V j) p) q
def CorV (n m : Nat) : Prop := (n ≤ 1000 ∧ m = n) ∨ (1000 < n ∧ m = 0)
theorem CorV.one {n m k : Nat} (h : CorV n m) (g : CorV n k) : m = k := by unfold CorV at h g; omega
theorem corV_some (n : Nat) : ∃ m, CorV n m ∧ m ≤ n := by
  by_cases h : n ≤ 1000
  · exact ⟨n, .inl ⟨h, rfl⟩, Nat.le_refl _⟩
  · exact ⟨0, .inr ⟨by omega, rfl⟩, Nat.zero_le _⟩
set_option maxRecDepth 20000 in
set_option maxHeartbeats 4000000 in
theorem specCor_any (s : Option Addr) (n c : Nat) (V : Nat → Option Nat) (a b : Nat) (p q : Option Nat) (ha : Fl a p) (hb : Fl b q) (w : World) (hn : (n : Int) ≤ 1048576) (HR : Hid (RowF w s n V)) :
    Calls Try.prog 13 #[.slice s n c, .float .f64 a, .float .f64 b] w fun e w' => ∃ m s' c', CorV n m ∧ e = .returned (.slice s' m c') ∧ OwnF w.heap.size w' s' m (corO V p q) ∧ Below w.heap.size w w' := by
  go_enter Try.func13, Try.ntmps13
  go_wp2_with fail
  go_loopw [7, 8] (fun v i wr => ∃ (k : Nat) (xs : List Value), k ≤ n ∧ i = .int .i64 k ∧ (1000 < n → k = 0) ∧ MadeF w.heap.size w wr v k xs (corO V p q)) (fun _ i _ => n - (intOf i).toNat)
  case atStart => exact ⟨0, [], Nat.zero_le _, rfl, fun _ => rfl, madeF_lit w _ (Nat.le_refl _)⟩
  case round =>
    obtain ⟨k, xs, hk, rfl, h0, hM⟩ := hrel
    have HM : Hid (MadeF w.heap.size w wr u7 k xs (corO V p q)) := hM
    obtain ⟨hown, -, hB⟩ := hM
    have HO : Hid (wr.ownsRow w.heap.size 24 1 u7 k xs) := hown
    have zB := hB.size
    by_cases hlt : k < n
    · have k1 : (k : Int) < (n : Int) := by omega
      by_cases hm : n ≤ 1000
      · have m1 : (n : Int) ≤ 1000 := by omega
        obtain ⟨g, o, x, rfl, hg, c0, hx⟩ := HR.out k hlt
        have d0 : wr.cell? ⟨g, o + k, none⟩ = some (.float .f64 x) := (hB.cell (p := ⟨g, o + k, none⟩) hg).trans c0
        have HX : Hid (Fl x (V k)) := hx
        clear hown hB c0 hg hx h0
        go_wp2_with (first
          | (refine list_fop .mul rfl _ _ _ _ (by rfl) (by rfl) (by rfl) (by rfl) HX.out ha ?_; intro x1 n1 f1)
          | (refine list_fop .add rfl _ _ _ _ (by rfl) (by rfl) (by rfl) (by rfl) f1 hb ?_; intro x2 n2 f2)
          | (at_builtin; refine list_f64 w.heap.size u7 k xs (.tmp 28) (.tmp 32) (by rfl) (by rfl) (by rfl) (by rfl) (by exact HO.out) (by omega) (by simp; omega) ?_; intro g' cap' w3 hown3 hgrow3 hlt3))
        go_roundw
        case rel => exact ⟨k + 1, _, by omega, by go_num, fun _ => by omega, madeF_on HM.out (by repeat (first | with_reducible exact Below.refl _ _ | with_reducible refine Below.setCell ?_ (by first | omega | (simp; done) | (simp; omega)) _ | with_reducible refine bDrewN ?_ _ | with_reducible refine Below.drew ?_ | with_reducible refine Below.alloc ?_ (by first | omega | (simp; done) | (simp; omega)) _)) zB f2 hown3 hgrow3⟩
        case measure => simp [intOf]; omega
      · have m1 : (1000 : Int) < (n : Int) := by omega
        have m2 : decide ((n : Int) ≤ 1000) = false := decide_eq_false (by omega)
        have K0 : Hid (k = 0) := h0 (by omega)
        obtain ⟨s', cap, rfl, ho⟩ := madeF_own HM.out
        have HS : Hid (OwnF w.heap.size wr s' k (corO V p q)) := ho
        clear ho hown h0
        go_wp2
        go_ret
        first | exact ⟨k, _, _, .inr ⟨by omega, K0.out⟩, rfl, HS.out, hB⟩ | exact ⟨k, .inr ⟨by omega, K0.out⟩, _, ⟨_, rfl⟩, HS.out, hB⟩
    · obtain rfl : k = n := by omega
      obtain ⟨s', cap, rfl, ho⟩ := madeF_own HM.out
      have HS : Hid (OwnF w.heap.size wr s' k (corO V p q)) := ho
      have HV : Hid (CorV k k) := show CorV k k by
        by_cases h : 1000 < k
        · have := h0 h; omega
        · exact .inl ⟨by omega, rfl⟩
      clear ho hown h0
      go_wp2
      go_ret
      exact ⟨k, _, _, HV.out, rfl, HS.out, hB⟩
set_option maxRecDepth 20000 in
set_option maxHeartbeats 4000000 in
theorem implCor_any (s : Option Addr) (n c : Nat) (V : Nat → Option Nat) (a b : Nat) (p q : Option Nat) (ha : Fl a p) (hb : Fl b q) (w : World) (hn : (n : Int) ≤ 1048576) (HR : Hid (RowF w s n V)) :
    Calls Try.prog 11 #[.slice s n c, .float .f64 a, .float .f64 b] w fun e w' => ∃ m s' c', CorV n m ∧ e = .returned (.slice s' m c') ∧ OwnF w.heap.size w' s' m (corO V p q) ∧ Below w.heap.size w w' := by
  by_cases hm : 1000 < n
  · have m1 : (1000 : Int) < (n : Int) := by omega
    go_enter Try.func11, Try.ntmps11
    go_wp2
    go_ret
    exact ⟨0, _, _, .inr ⟨hm, rfl⟩, rfl, fun j hj => by omega, (by repeat (first | with_reducible exact Below.refl _ _ | with_reducible refine Below.setCell ?_ (by first | omega | (simp; done) | (simp; omega)) _ | with_reducible refine bDrewN ?_ _ | with_reducible refine Below.drew ?_ | with_reducible refine Below.alloc ?_ (by first | omega | (simp; done) | (simp; omega)) _))⟩
  have m1 : (n : Int) ≤ 1000 := by omega
  have hmk := make_f64 n (by omega)
  have sto := store_fr
  go_enter Try.func11, Try.ntmps11
  go_wp2_with fail
  go_loopw [18] (fun i wr => ∃ k : Nat, k ≤ n ∧ i = .int .i64 k ∧ RowFTo w wr n k (corO V p q)) (fun i _ => n - (intOf i).toNat)
  case atStart => exact ⟨0, Nat.zero_le _, rfl, rowFTo_start (made_one n)⟩
  case round =>
    obtain ⟨k, hk, rfl, hR⟩ := hrel
    have HT : Hid (RowFTo w wr n k (corO V p q)) := hR
    obtain ⟨hB, hz, hf, hc⟩ := hR
    by_cases h1 : k < n
    · obtain ⟨g, o, x, rfl, hg, c0, hx⟩ := HR.out k h1
      have d0 : wr.cell? ⟨g, o + k, none⟩ = some (.float .f64 x) := (hB.cell (p := ⟨g, o + k, none⟩) hg).trans c0
      have k1 : (k : Int) < (n : Int) := by omega
      have HX : Hid (Fl x (V k)) := hx
      obtain ⟨u0, f0, -⟩ := hc k h1
      have fz := hf k
      clear hc hB c0 hg hx hf
      go_wp2_with (first
        | (refine list_fop .mul rfl _ _ _ _ (by rfl) (by rfl) (by rfl) (by rfl) HX.out ha ?_; intro x1 n1 f1)
        | (refine list_fop .add rfl _ _ _ _ (by rfl) (by rfl) (by rfl) (by rfl) f1 hb ?_; intro x2 n2 f2))
      go_roundw
      case rel => exact ⟨k + 1, by omega, by go_num, rowFTo_set (rowFTo_keep HT.out (by repeat (first | with_reducible exact Below.refl _ _ | with_reducible refine Below.setCell ?_ (by first | omega | (simp; done) | (simp; omega)) _ | with_reducible refine bDrewN ?_ _ | with_reducible refine Below.drew ?_ | with_reducible refine Below.alloc ?_ (by first | omega | (simp; done) | (simp; omega)) _))) f2⟩
      case measure => simp [intOf]; omega
    · obtain rfl : k = n := by omega
      go_wp2
      go_ret
      exact ⟨k, _, _, .inl ⟨by omega, rfl⟩, rfl, rowFTo_own HT.out, hB⟩
end Go.Proofs.Ytpnhliijkepbbaa
