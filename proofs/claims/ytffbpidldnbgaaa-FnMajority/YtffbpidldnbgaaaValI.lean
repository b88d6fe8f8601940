/-
What is proved: flags counted, friends flagged, which work, those chosen and their sum, as the program tells them.
-/
import Derived.Test.YtffbpidldnbgaaaVal
import Derived.Test.YtffbpidldnbgaaaInR
namespace Go.Proofs.Ytffbpidldnbgaaa
set_option maxRecDepth 40000
open Go.RowKit
set_option linter.unusedVariables false
set_option linter.unusedSimpArgs false

set_option maxRecDepth 20000 in
set_option maxHeartbeats 1000000 in
theorem countSet_any (s : Option Addr) (m c : Nat) (P : Nat → Bool) (w : World) (hm : m ≤ 1048576) (HR : Hid (RowB w s m P)) :
    Calls Try.prog 32 #[.slice s m c] w fun e w' => e = .returned (.int .i64 (cnt P m : Nat)) ∧ w' = w := by
  go_enter Try.func32, Try.ntmps32
  go_wp2_with fail
  go_loop [3, 8] (fun q i => ∃ k : Nat, k ≤ m ∧ i = .int .i64 k ∧ q = .int .i64 (cnt P k : Nat)) (fun _ i => m - (intOf i).toNat)
  case atStart => exact ⟨0, Nat.zero_le _, rfl, rfl⟩
  case round =>
    obtain ⟨k, hk, rfl, rfl⟩ := hrel
    by_cases h1 : k < m
    · obtain ⟨g, o, rfl, hg, c0⟩ := HR.out k h1
      have k1 : (k : Int) < (m : Int) := by omega
      have cl := cnt_le P k
      cases hb : P k
      · have E : Hid (cnt P (k + 1) = cnt P k) := cnt_no hb
        rw [hb] at c0
        go_wp2
        go_round
        case rel => exact ⟨k + 1, by omega, by go_num, by rw [E.out]⟩
        case measure => simp [intOf]; omega
      · have E : Hid (cnt P (k + 1) = cnt P k + 1) := cnt_yes hb
        rw [hb] at c0
        go_wp2
        go_round
        case rel => exact ⟨k + 1, by omega, by go_num, by rw [E.out]; go_num⟩
        case measure => simp [intOf]; omega
    · obtain rfl : k = m := by omega
      go_wp2
      go_ret
      exact ⟨rfl, rfl⟩
theorem store_bo : ∀ (W : World) (a : Addr) (x : Bool), (W.cell? a).isSome = true → W.frozen? a = false → (store a (.bool x)).run Try.prog W = .ok () (W.setCell a (.bool x)) := fun W a x h hf => by
  obtain ⟨u, hu⟩ := Option.isSome_iff_exists.1 h
  rw [run_store Try.prog W a _ _ rfl, hu]; simp [hf]
set_option maxRecDepth 20000 in
set_option maxHeartbeats 2000000 in
theorem friendsOf_any {y z : Nat} {v a : Option Nat} (hy : Fl y v) (hz : Fl z a) (s : Option Addr) (n c : Nat) (V : Nat → Option Nat) (w : World) (hn : (n : Int) ≤ 1048576) (HR : Hid (RowN w s n V)) :
    Calls Try.prog 45 #[.float .f64 y, .slice s n c, .float .f64 z] w fun e w' => e = .returned (.slice (some ⟨w.heap.size, 0, none⟩) n n) ∧ OwnB w.heap.size w' (some ⟨w.heap.size, 0, none⟩) n (fun k => knP (V k) && nearO (V k) v a) ∧ Below w.heap.size w w' := by
  have hmk := make_bool n (by omega)
  have sto := store_bo
  have ty := assert_yes
  have tn := assert_no
  go_enter Try.func45, Try.ntmps45
  go_wp2_with fail
  go_loopw [15] (fun i wr => ∃ k : Nat, k ≤ n ∧ i = .int .i64 k ∧ BowTo w wr n k (fun k => knP (V k) && nearO (V k) v a)) (fun i _ => n - (intOf i).toNat)
  case atStart => exact ⟨0, Nat.zero_le _, rfl, bowTo_start w n _ _⟩
  case round =>
    obtain ⟨k, hk, rfl, hR⟩ := hrel
    have HT : Hid (BowTo w wr n k (fun k => knP (V k) && nearO (V k) v a)) := hR
    obtain ⟨hB, hz0, hf, hc⟩ := hR
    by_cases h1 : k < n
    · obtain ⟨g, o, x, rfl, hg, c0, hx⟩ := HR.out k h1
      have d0 : wr.cell? ⟨g, o + k, none⟩ = some (insV x) := (hB.cell (p := ⟨g, o + k, none⟩) hg).trans c0
      have k1 : (k : Int) < (n : Int) := by omega
      have HX : Hid (knownB x = knP (V k)) := knownP_fl hx
      have f0 := hc k h1
      have fz := hf k
      clear hc hB c0 hg hf
      cases hb : knownB x
      · have kn : knP (V k) = false := HX.out.symm.trans hb
        have EU : Hid ((fun k => knP (V k) && nearO (V k) v a) k = false) := show _ = false by simp [kn]
        have e2 : insV x = .iface 72 (.agg #[]) := by unfold insV; rw [hb]; rfl
        rw [e2] at d0
        clear e2 hb kn
        go_wp2_with fail
        refine upon_run (a := (69, Value.agg #[])) (w' := wr) (by kernel_rfl) ?_
        go_wp2_with fail
        refine (nearB_any y z _).mono ?_
        rintro e w2 ⟨rfl, h2⟩
        have f2 := (h2.cell (p := ⟨w.heap.size, k, none⟩) hz0).trans f0
        have g2 := (h2.frozen (p := ⟨w.heap.size, k, none⟩) hz0).trans fz
        have z2 := Nat.lt_of_lt_of_le hz0 h2.size
        clear f0 fz d0
        go_wp2
        go_roundw
        case rel => exact ⟨k + 1, by omega, by go_num, by have q := bowTo_on HT.out h2; rw [EU.out] at q; exact q⟩
        case measure => simp [intOf]; omega
      · have kn : knP (V k) = true := HX.out.symm.trans hb
        have e2 : insV x = .iface 65 (.float .f64 x) := by unfold insV; rw [hb]; rfl
        rw [e2] at d0
        clear e2 hb
        have EU : Hid ((fun k => knP (V k) && nearO (V k) v a) k = nearO (V k) v a) := show _ = nearO (V k) v a by simp [kn]
        clear kn
        go_wp2_with fail
        refine upon_run (a := (67, Value.float .f64 x)) (w' := wr) (by kernel_rfl) ?_
        go_wp2_with fail
        refine (nearW_any hx hy hz _).mono ?_
        rintro e w2 ⟨rfl, h2⟩
        have f2 := (h2.cell (p := ⟨w.heap.size, k, none⟩) hz0).trans f0
        have g2 := (h2.frozen (p := ⟨w.heap.size, k, none⟩) hz0).trans fz
        have z2 := Nat.lt_of_lt_of_le hz0 h2.size
        clear f0 fz d0
        go_wp2
        go_roundw
        case rel => exact ⟨k + 1, by omega, by go_num, by have q := bowTo_on HT.out h2; rw [EU.out] at q; exact q⟩
        case measure => simp [intOf]; omega
    · obtain rfl : k = n := by omega
      go_wp2
      go_ret
      exact ⟨rfl, bowTo_own HT.out, hB⟩
set_option maxRecDepth 20000 in
set_option maxHeartbeats 2000000 in
theorem whichWork_any (s : Option Addr) (n c : Nat) (V : Nat → Option Nat) (w : World) (hn : (n : Int) ≤ 1048576) (HR : Hid (RowN w s n V)) :
    Calls Try.prog 33 #[.slice s n c] w fun e w' => e = .returned (.slice (some ⟨w.heap.size, 0, none⟩) n n) ∧ OwnB w.heap.size w' (some ⟨w.heap.size, 0, none⟩) n (fun k => knP (V k)) ∧ Below w.heap.size w w' := by
  have hmk := make_bool n (by omega)
  have sto := store_bo
  have ty := assert_yes
  have tn := assert_no
  go_enter Try.func33, Try.ntmps33
  go_wp2_with fail
  go_loopw [11] (fun i wr => ∃ k : Nat, k ≤ n ∧ i = .int .i64 k ∧ BowTo w wr n k (fun k => knP (V k))) (fun i _ => n - (intOf i).toNat)
  case atStart => exact ⟨0, Nat.zero_le _, rfl, bowTo_start w n _ _⟩
  case round =>
    obtain ⟨k, hk, rfl, hR⟩ := hrel
    have HT : Hid (BowTo w wr n k (fun k => knP (V k))) := hR
    obtain ⟨hB, hz0, hf, hc⟩ := hR
    by_cases h1 : k < n
    · obtain ⟨g, o, x, rfl, hg, c0, hx⟩ := HR.out k h1
      have d0 : wr.cell? ⟨g, o + k, none⟩ = some (insV x) := (hB.cell (p := ⟨g, o + k, none⟩) hg).trans c0
      have k1 : (k : Int) < (n : Int) := by omega
      have HX : Hid (knownB x = knP (V k)) := knownP_fl hx
      have f0 := hc k h1
      have fz := hf k
      clear hc hB c0 hg hf
      cases hb : knownB x
      · have kn : knP (V k) = false := HX.out.symm.trans hb
        have EU : Hid ((fun k => knP (V k)) k = false) := show _ = false by simp [kn]
        have e2 : insV x = .iface 72 (.agg #[]) := by unfold insV; rw [hb]; rfl
        rw [e2] at d0
        clear e2 hb kn
        go_wp2
        go_roundw
        case rel => exact ⟨k + 1, by omega, by go_num, by have q := bowTo_on HT.out (Below.refl _ _); have e := EU.out; rw [show knP (V k) = _ from e] at q; exact q⟩
        case measure => simp [intOf]; omega
      · have kn : knP (V k) = true := HX.out.symm.trans hb
        have e2 : insV x = .iface 65 (.float .f64 x) := by unfold insV; rw [hb]; rfl
        rw [e2] at d0
        clear e2 hb
        have EU : Hid ((fun k => knP (V k)) k = true) := kn
        clear kn
        go_wp2
        go_roundw
        case rel => exact ⟨k + 1, by omega, by go_num, by have q := bowTo_on HT.out (Below.refl _ _); have e := EU.out; rw [show knP (V k) = _ from e] at q; exact q⟩
        case measure => simp [intOf]; omega
    · obtain rfl : k = n := by omega
      go_wp2
      go_ret
      exact ⟨rfl, bowTo_own HT.out, hB⟩
theorem th_pre (V : Nat → Option Nat) (P : Nat → Bool) (k : Nat) : ∀ n, k ≤ n → ∃ t, thL V P n = thL V P k ++ t
  | 0, h => by obtain rfl : k = 0 := by omega
               exact ⟨[], by simp⟩
  | n + 1, h => by
    by_cases e : k = n + 1
    · subst e; exact ⟨[], by simp⟩
    · obtain ⟨t, ht⟩ := th_pre V P k n (by omega)
      cases q : P n
      · exact ⟨t, by rw [th_no q, ht]⟩
      · exact ⟨t ++ [V n], by rw [th_yes q, ht, List.append_assoc]⟩
theorem th_at {V : Nat → Option Nat} {P : Nat → Bool} {k n : Nat} (hk : k < n) (h : P k = true) : (thL V P n).getD (thL V P k).length none = V k := by
  obtain ⟨t, ht⟩ := th_pre V P (k + 1) n hk
  rw [ht, th_yes h]
  simp
theorem madeF_nil (w : World) (V : Nat → Option Nat) {base : Nat} : MadeF base w w (.slice none 0 0) 0 [] V :=
  ⟨World.ownsRow_nil w base 25 1, ⟨rfl, fun j hj => by omega⟩, Below.refl _ _⟩
set_option maxRecDepth 20000 in
set_option maxHeartbeats 2000000 in
theorem those_any (s : Option Addr) (n c : Nat) (V : Nat → Option Nat) (u : Option Addr) (d : Nat) (P : Nat → Bool) (w : World) (hn : (n : Int) ≤ 16) (HR : Hid (RowF w s n V)) (HU : Hid (RowB w u n P)) :
    Calls Try.prog 35 #[.slice s n c, .slice u n d] w fun e w' => ∃ s' c', e = .returned (.slice s' (thL V P n).length c') ∧ RowF w' s' (thL V P n).length (fun j => (thL V P n).getD j none) ∧ Below w.heap.size w w' := by
  go_enter Try.func35, Try.ntmps35
  go_wp2_with fail
  go_loopw [5, 10] (fun v i wr => ∃ (k : Nat) (xs : List Value), k ≤ n ∧ i = .int .i64 k ∧ MadeF w.heap.size w wr v (thL V P k).length xs (fun j => (thL V P n).getD j none)) (fun _ i _ => n - (intOf i).toNat)
  case atStart => exact ⟨0, [], Nat.zero_le _, rfl, madeF_nil w _⟩
  case round =>
    obtain ⟨k, xs, hk, rfl, hM⟩ := hrel
    have HM : Hid (MadeF w.heap.size w wr u5 (thL V P k).length xs (fun j => (thL V P n).getD j none)) := hM
    obtain ⟨hown, -, hB⟩ := hM
    have HO : Hid (wr.ownsRow w.heap.size 25 1 u5 (thL V P k).length xs) := hown
    have zB := hB.size
    have tl := th_le V P k
    by_cases hlt : k < n
    · obtain ⟨g, o, x, rfl, hg, c0, hx⟩ := HR.out k hlt
      obtain ⟨g2, o2, rfl, hg2, c2⟩ := HU.out k hlt
      have d0 : wr.cell? ⟨g, o + k, none⟩ = some (.float .f64 x) := (hB.cell (p := ⟨g, o + k, none⟩) hg).trans c0
      have d2 : wr.cell? ⟨g2, o2 + k, none⟩ = some (.bool (P k)) := (hB.cell (p := ⟨g2, o2 + k, none⟩) hg2).trans c2
      have k1 : (k : Int) < (n : Int) := by omega
      have HX : Hid (Fl x (V k)) := hx
      clear hown hB c0 c2 hg hg2 hx
      cases hb : P k
      · have E : Hid (thL V P (k + 1) = thL V P k) := th_no hb
        rw [hb] at d2
        go_wp2
        go_roundw
        case rel => exact ⟨k + 1, xs, by omega, by go_num, by rw [E.out]; exact HM.out⟩
        case measure => simp [intOf]; omega
      · have E : Hid ((thL V P (k + 1)).length = (thL V P k).length + 1) := show _ = _ by rw [th_yes hb]; simp
        have EV : Hid ((thL V P n).getD (thL V P k).length none = V k) := th_at hlt hb
        rw [hb] at d2
        go_wp2_with (at_builtin; refine list_f64 w.heap.size u5 (thL V P k).length xs (.tmp 19) (.tmp 21) (by rfl) (by rfl) (by rfl) (by rfl) (by exact HO.out) (by omega) zB ?_; intro g' cap' w3 hown3 hgrow3 hlt3)
        go_roundw
        case rel => exact ⟨k + 1, _, by omega, by go_num, by rw [E.out]; exact madeF_on HM.out (Below.refl _ _) zB (show Fl x ((thL V P n).getD (thL V P k).length none) by rw [EV.out]; exact HX.out) hown3 hgrow3⟩
        case measure => simp [intOf]; omega
    · obtain rfl : k = n := by omega
      obtain ⟨s', cap, rfl, ho⟩ := madeF_own HM.out
      have HS : Hid (RowF wr s' (thL V P k).length (fun j => (thL V P k).getD j none)) := ho.row
      clear ho hown
      go_wp2
      go_ret
      exact ⟨s', cap, rfl, HS.out, hB⟩
def sumU (U : Nat → Option Nat) : Nat → Option Nat
  | 0 => some 0
  | k + 1 => opO .add (sumU U k) (U k)
theorem sumU_list (l : List (Option Nat)) : ∀ k, k ≤ l.length → sumU (fun j => l.getD j none) k = sumL (l.take k)
  | 0, _ => by simp [sumU, sumL]
  | k + 1, h => by
    have e : l.take (k + 1) = l.take k ++ [l.getD k none] := by
      rw [List.take_add_one]
      congr 1
      rw [List.getD_eq_getElem?_getD, List.getElem?_eq_getElem (by omega)]
      rfl
    rw [e, sum_snoc, ← sumU_list l k (by omega)]
    rfl
theorem sumU_all (l : List (Option Nat)) : sumU (fun j => l.getD j none) l.length = sumL l := by rw [sumU_list l _ (Nat.le_refl _), List.take_length]
set_option maxRecDepth 20000 in
set_option maxHeartbeats 2000000 in
theorem sumOfV_any (s : Option Addr) (m c : Nat) (U : Nat → Option Nat) (w : World) (hm : (m : Int) ≤ 1048576) (HR : Hid (RowF w s m U)) :
    Calls Try.prog 34 #[.slice s m c] w fun e w' => ∃ r, e = .returned (.float .f64 r) ∧ Fl r (sumU U m) ∧ Below w.heap.size w w' := by
  go_enter Try.func34, Try.ntmps34
  go_wp2_with fail
  go_loopw [3, 8] (fun q i wr => ∃ (k x : Nat), k ≤ m ∧ i = .int .i64 k ∧ q = .float .f64 x ∧ Fl x (sumU U k) ∧ Below w.heap.size w wr) (fun _ i _ => m - (intOf i).toNat)
  case atStart => exact ⟨0, 0, Nat.zero_le _, rfl, rfl, fl_zero, Below.refl _ _⟩
  case round =>
    obtain ⟨k, x, hk, rfl, rfl, hx, hB⟩ := hrel
    by_cases h1 : k < m
    · obtain ⟨g, o, y, rfl, hg, c0, hy⟩ := HR.out k h1
      have d0 : wr.cell? ⟨g, o + k, none⟩ = some (.float .f64 y) := (hB.cell (p := ⟨g, o + k, none⟩) hg).trans c0
      have k1 : (k : Int) < (m : Int) := by omega
      clear c0 hg
      go_wp2_with (first | (refine list_fop .add rfl _ _ _ _ (by rfl) (by rfl) (by rfl) (by rfl) hx hy ?_; intro x1 n1 f1))
      go_roundw
      case rel => exact ⟨k + 1, x1, by omega, by go_num, rfl, f1, (by repeat (first | with_reducible exact Below.refl _ _ | with_reducible exact hB | with_reducible refine Below.setCell ?_ (by first | omega | (simp; done) | (simp; omega)) _ | with_reducible refine bDrewN ?_ _ | with_reducible refine Below.drew ?_ | with_reducible refine Below.alloc ?_ (by first | omega | (simp; done) | (simp; omega)) _))⟩
      case measure => simp [intOf]; omega
    · obtain rfl : k = m := by omega
      go_wp2
      go_ret
      exact ⟨x, rfl, hx, hB⟩
end Go.Proofs.Ytffbpidldnbgaaa
