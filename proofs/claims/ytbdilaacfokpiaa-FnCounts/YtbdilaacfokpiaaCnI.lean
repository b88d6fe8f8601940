/-
What is proved: the count that the program tells of a number: the least one is found by halving.
-/
import Derived.Test.YtbdilaacfokpiaaCnN
import Derived.Test.YtbdilaacfokpiaaSeI
import Derived.Deep.RegionHeld3
import Derived.Deep.DeepCutAuto
namespace Go.Proofs.Ytbdilaacfokpiaa
set_option maxRecDepth 40000
open Go.ChangeShapes Go.WideShapes Go.ChangeAt Go.RowKit
set_option linter.unusedVariables false
set_option linter.unusedSimpArgs false

def SenAt (w : World) (p q a b x : Nat) : Prop := p < w.heap.size ∧ q < w.heap.size ∧ w.cell? ⟨p, 0, none⟩ = some (.float .f64 a) ∧ w.cell? ⟨p, 1, none⟩ = some (.float .f64 b) ∧ w.cell? ⟨q, 0, none⟩ = some (.float .f64 x)
theorem SenAt.below {w w' : World} {p q a b x : Nat} (h : SenAt w p q a b x) (hb : Below w.heap.size w w') : SenAt w' p q a b x :=
  ⟨Nat.lt_of_lt_of_le h.1 hb.size, Nat.lt_of_lt_of_le h.2.1 hb.size, (hb.cell (p := ⟨p, 0, none⟩) h.1).trans h.2.2.1, (hb.cell (p := ⟨p, 1, none⟩) h.1).trans h.2.2.2.1, (hb.cell (p := ⟨q, 0, none⟩) h.2.1).trans h.2.2.2.2⟩
theorem ge_is {r x : Nat} {o X : Option Nat} (hr : Fl r o) (hx : Fl x X) : (FloatKind.f64.format.order r x == some .gt || FloatKind.f64.format.order r x == some .eq) = geO o X := by
  cases h : geO o X
  · rcases ge_no hr hx h with z | z <;> rw [z] <;> rfl
  · rcases ge_yes hr hx h with z | z <;> rw [z] <;> rfl
theorem keepSe {W W' : World} {p q a b x : Nat} (h : SenAt W p q a b x) (hb : Below W.heap.size W W') : W'.cell? ⟨p, 0, none⟩ = some (.float .f64 a) ∧ W'.cell? ⟨p, 1, none⟩ = some (.float .f64 b) ∧ W'.cell? ⟨q, 0, none⟩ = some (.float .f64 x) := (h.below hb).2.2
set_option maxRecDepth 20000 in
set_option maxHeartbeats 2000000 in
theorem reaches_any (a b x p q : Nat) (la : a < 18446744073709551616) (lb : b < 18446744073709551616) (X : Option Nat) (hx : Fl x X) (c : Int) (w : World) (HS : Hid (SenAt w p q a b x)) :
    Calls Try.prog 14 #[.int .i64 c, .pointer (some ⟨p, 0, none⟩), .pointer (some ⟨q, 0, none⟩)] w fun e w' => e = .returned (.bool (rchB a b X c)) ∧ Below w.heap.size w w' := by
  have HX : Hid (Fl x X) := hx
  have HR : Hid (∀ (c : Int) (w : World), Calls Try.prog 10 #[.agg #[.float .f64 a, .float .f64 b], .int .i64 c] w fun e w' => ∃ r, e = .returned (.float .f64 r) ∧ Fl r (readO a b c) ∧ Below w.heap.size w w') := fun c w => implRead_any a b la lb c w
  clear hx la lb
  obtain ⟨zp, zq, cp, cp1, cq⟩ := HS.out
  go_enter Try.func14, Try.ntmps14
  go_wp2_with fail
  go_region_held3 (fun w' => w'.cell? ⟨p, 0, none⟩ = some (.float .f64 a) ∧ w'.cell? ⟨p, 1, none⟩ = some (.float .f64 b) ∧ w'.cell? ⟨q, 0, none⟩ = some (.float .f64 x)) (first | (exact ⟨cp, cp1, cq⟩) | (refine keepSe HS.out ?_; exact (by repeat (first | with_reducible exact Below.refl _ _ | with_reducible exact B3 | with_reducible refine Below.setCell ?_ (by first | omega | (simp; done) | (simp; omega)) _ | with_reducible refine bDrewN ?_ _ | with_reducible refine Below.drew ?_ | with_reducible refine Below.alloc ?_ (by first | omega | (simp; done) | (simp; omega)) _)))) (first
    | (go_at_call 10; refine (HR.out c _).mono ?_; rintro e w3 ⟨r, rfl, hr, h3⟩; have B3 : Below w.heap.size w w3 := Below.trans (by repeat (first | with_reducible exact Below.refl _ _ | with_reducible refine Below.setCell ?_ (by first | omega | (simp; done) | (simp; omega)) _ | with_reducible refine bDrewN ?_ _ | with_reducible refine Below.drew ?_ | with_reducible refine Below.alloc ?_ (by first | omega | (simp; done) | (simp; omega)) _)) (h3.mono (by first | omega | (simp; done) | (simp; omega))); have hr2 : Hid (Fl r (readO a b c)) := hr; clear hr))
  all_goals
    go_wp2
    go_ret
    exact ⟨ret_bool (ge_is hr2.out HX.out), (by repeat (first | with_reducible exact Below.refl _ _ | with_reducible exact B3 | with_reducible refine Below.setCell ?_ (by first | omega | (simp; done) | (simp; omega)) _ | with_reducible refine bDrewN ?_ _ | with_reducible refine Below.drew ?_ | with_reducible refine Below.alloc ?_ (by first | omega | (simp; done) | (simp; omega)) _))⟩
set_option maxHeartbeats 1000000 in
theorem leastCount_any (lo hi L : Int) (p q : Nat) (w : World) (h1 : lo ≤ L) (h2 : L ≤ hi) (h3 : -1000000 ≤ lo) (h4 : hi ≤ 1000000)
    (M : Hid (∀ x w', Below w.heap.size w w' → lo ≤ x → x ≤ hi → Calls Try.prog 14 #[.int .i64 x, .pointer (some ⟨p, 0, none⟩), .pointer (some ⟨q, 0, none⟩)] w' fun e w'' => e = .returned (.bool (decide (L ≤ x))) ∧ Below w'.heap.size w' w'')) :
    Calls Try.prog 15 #[.int .i64 lo, .int .i64 hi, .func (.func 14) #[] #[.pointer (some ⟨p, 0, none⟩), .pointer (some ⟨q, 0, none⟩)]] w fun e w' => e = .returned (.int .i64 L) ∧ Below w.heap.size w w' := by
  go_enter Try.func15, Try.ntmps15
  go_wp2_with fail
  go_loopw [0, 1] (fun i j wr => ∃ l h, i = .int .i64 l ∧ j = .int .i64 h ∧ lo ≤ l ∧ l ≤ L ∧ L ≤ h ∧ h ≤ hi ∧ Below w.heap.size w wr) (fun i j _ => (intOf j - intOf i).toNat)
  case atStart => exact ⟨lo, hi, rfl, rfl, Int.le_refl _, h1, h2, Int.le_refl _, (by repeat (first | with_reducible exact Below.refl _ _ | with_reducible refine Below.setCell ?_ (by first | omega | (simp; done) | (simp; omega)) _ | with_reducible refine bDrewN ?_ _ | with_reducible refine Below.drew ?_ | with_reducible refine Below.alloc ?_ (by first | omega | (simp; done) | (simp; omega)) _))⟩
  case round =>
    obtain ⟨l, h, rfl, rfl, r1, r2, r3, r4, hB⟩ := hrel
    by_cases t : l < h
    · obtain ⟨z, hz⟩ : ∃ z, l + (h - l) / 2 = z := ⟨_, rfl⟩
      have z1 : l ≤ z := by omega
      have z2 : z < h := by omega
      have HB : Hid (Below w.heap.size w wr) := hB
      clear hB
      by_cases u : L ≤ z
      · go_wp2_with fail
        refine (M.out z _ HB.out (by omega) (by omega)).mono ?_
        rintro r w3 ⟨rfl, k3⟩
        have B3 : Below w.heap.size w w3 := HB.out.trans (k3.mono HB.out.size)
        go_wp2
        go_round
        case rel => exact ⟨l, z, rfl, rfl, r1, r2, u, by omega, B3⟩
        case measure => simp [intOf]; omega
      · go_wp2_with fail
        refine (M.out z _ HB.out (by omega) (by omega)).mono ?_
        rintro r w3 ⟨rfl, k3⟩
        have B3 : Below w.heap.size w w3 := HB.out.trans (k3.mono HB.out.size)
        go_wp2
        go_round
        case rel => exact ⟨z + 1, h, by go_num, rfl, by omega, by omega, r3, r4, B3⟩
        case measure => simp [intOf]; omega
    · obtain rfl : l = L := by omega
      go_wp2
      go_ret
      exact ⟨rfl, (by repeat (first | with_reducible exact Below.refl _ _ | with_reducible exact hB | with_reducible refine Below.setCell ?_ (by first | omega | (simp; done) | (simp; omega)) _ | with_reducible refine bDrewN ?_ _ | with_reducible refine Below.drew ?_ | with_reducible refine Below.alloc ?_ (by first | omega | (simp; done) | (simp; omega)) _))⟩
set_option maxRecDepth 20000 in
set_option maxHeartbeats 2000000 in
theorem implCountOf_any (a b x : Nat) (la : a < 18446744073709551616) (lb : b < 18446744073709551616) (lx : x < 18446744073709551616) (X : Option Nat) (hx : Fl x X) (w : World) :
    Calls Try.prog 8 #[.agg #[.float .f64 a, .float .f64 b], .float .f64 x] w fun e w' => ∃ c, CntV a b X c ∧ e = .returned (.int .i64 c) ∧ Below w.heap.size w w' := by
  have HK : Hid (∀ (p q : Nat) (c : Int) (w : World), SenAt w p q a b x → Calls Try.prog 14 #[.int .i64 c, .pointer (some ⟨p, 0, none⟩), .pointer (some ⟨q, 0, none⟩)] w fun e w' => e = .returned (.bool (rchB a b X c)) ∧ Below w.heap.size w w') := fun p q c w h => reaches_any a b x p q la lb X hx c w h
  clear hx la lb
  go_enter Try.func8, Try.ntmps8
  go_upto_region 1 with fail
  obtain ⟨wa, hwa⟩ : ∃ wa, wa = (w.alloc (.cells #[.float .f64 a, .float .f64 b] 26)).alloc (.cells #[.float .f64 x] 22) := ⟨_, rfl⟩
  rw [← hwa]
  have B1 : Below w.heap.size w wa := by rw [hwa]; exact (by repeat (first | with_reducible exact Below.refl _ _ | with_reducible refine Below.setCell ?_ (by first | omega | (simp; done) | (simp; omega)) _ | with_reducible refine bDrewN ?_ _ | with_reducible refine Below.drew ?_ | with_reducible refine Below.alloc ?_ (by first | omega | (simp; done) | (simp; omega)) _))
  have HA : Hid (SenAt wa w.heap.size (w.heap.size + 1) a b x) := by
    show SenAt _ _ _ _ _ _
    rw [hwa]
    refine ⟨by simp; omega, by simp, ?_, ?_, ?_⟩ <;> simp [go_sem]
  clear hwa
  go_wp2_with fail
  refine (HK.out _ _ 4055 _ HA.out).mono ?_
  rintro e w3 ⟨rfl, h3⟩
  have HA3 : Hid (SenAt w3 w.heap.size (w.heap.size + 1) a b x) := HA.out.below h3
  have B3 : Below w.heap.size w w3 := B1.trans (h3.mono B1.size)
  clear h3 HA B1
  cases hb : rchB a b X 4055
  · have HV : Hid (CntV a b X (-1)) := Or.inl ⟨rfl, fun k k0 k1 => by
      cases q : rchB a b X k
      · rfl
      · rw [rch_mono k0 k1 (by omega) q] at hb; cases hb⟩
    clear hb
    go_wp2
    go_ret
    exact ⟨-1, HV.out, rfl, B3⟩
  · obtain ⟨L, hL⟩ := cnt_some a b X
    have HV : Hid (CntV a b X L) := hL
    obtain ⟨l1, l2, hI⟩ : 40 ≤ L ∧ L ≤ 4055 ∧ ∀ c, 40 ≤ c → c ≤ 4055 → rchB a b X c = decide (L ≤ c) := by
      rcases hL with ⟨-, h⟩ | ⟨g1, g2, g3, g4⟩
      · rw [h 4055 (by omega) (by omega)] at hb; cases hb
      · refine ⟨g1, g2, fun c c0 c1 => ?_⟩
        by_cases q : L ≤ c
        · rw [decide_eq_true q]; exact rch_mono g1 q c1 g3
        · rw [decide_eq_false q]; exact g4 c c0 (by omega)
    have HM : Hid (∀ c w', Below w3.heap.size w3 w' → 40 ≤ c → c ≤ 4055 → Calls Try.prog 14 #[.int .i64 c, .pointer (some ⟨w.heap.size, 0, none⟩), .pointer (some ⟨w.heap.size + 1, 0, none⟩)] w' fun e w'' => e = .returned (.bool (decide (L ≤ c))) ∧ Below w'.heap.size w' w'') := fun c w' hb' c0 c1 => by
      have := HK.out w.heap.size (w.heap.size + 1) c w' (HA3.out.below hb')
      rw [hI c c0 c1] at this
      exact this
    clear hb hL hI HK
    go_wp2_with fail
    refine (leastCount_any 40 4055 L _ _ _ l1 l2 (by omega) (by omega) HM).mono ?_
    rintro e w4 ⟨rfl, h4⟩
    have B4 : Below w.heap.size w w4 := B3.trans (h4.mono B3.size)
    go_wp2
    go_ret
    exact ⟨L, HV.out, rfl, B4⟩
end Go.Proofs.Ytbdilaacfokpiaa
