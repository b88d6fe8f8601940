/-
What is proved: FnFilters: of whole numbers that are drawn from any code Filter's answers to two lists add up to its answer to their sum; no condition.
-/
import Derived.Test.YtebbkcbpecpolaaLFl
import Derived.Test.YtebbkcbpecpolaaFiN
import Derived.Test.YtebbkcbpecpolaaOpen8F
import Derived.Deep.RegionHeld3
import Derived.Deep.DeepCutAuto
import Derived.BigQuiet
namespace Go.Proofs.Ytebbkcbpecpolaa
set_option maxRecDepth 40000
open Go.ChangeShapes Go.WideShapes Go.ChangeAt Go.RowKit
set_option linter.unusedVariables false
set_option linter.unusedSimpArgs false

def fN (C : Nat → Int) (j : Nat) : Option Nat := some (itf (C j % 9 - 4))
def fD (C : Nat → Int) (j : Nat) : Option Nat := if j = 0 then some ONE else some (itf (C 3 % 3 - 1))
def fA (C : Nat → Int) (j : Nat) : Option Nat := some (itf (C (4 + j) - 128))
def fB (C : Nat → Int) (j : Nat) : Option Nat := some (itf (C (12 + j) - 128))
def fC (C : Nat → Int) (j : Nat) : Option Nat := some (itf (C (4 + j) + C (12 + j) - 256))
theorem bytes_of {w : World} {s : Option Addr} {n : Nat} (h : Code8 w s n) (hn : 1 ≤ n) : ∃ (g o : Nat) (C : Nat → Int), s = some ⟨g, o, none⟩ ∧ g < w.heap.size ∧ ∀ i, i < n → w.cell? ⟨g, o + i, none⟩ = some (.int .u8 (C i)) ∧ 0 ≤ C i ∧ C i < 256 := by
  obtain ⟨g, o, _, rfl, hg, _⟩ := h.2 0 (by omega)
  have : ∀ i, ∃ k, i < n → w.cell? ⟨g, o + i, none⟩ = some (.int .u8 k) ∧ 0 ≤ k ∧ k < 256 := fun i => by
    by_cases hi : i < n
    · obtain ⟨g', o', k, e, _, hc, hk⟩ := h.2 i hi
      cases e
      exact ⟨k, fun _ => ⟨hc, hk⟩⟩
    · exact ⟨0, fun q => (hi q).elim⟩
  exact ⟨g, o, fun i => Classical.choose (this i), rfl, hg, fun i hi => Classical.choose_spec (this i) hi⟩
theorem keepF {W W' : World} {base p i j : Nat} {a b : Value} (h : W.cell? ⟨p, i, none⟩ = some a ∧ W.cell? ⟨p, j, none⟩ = some b) (hp : p < base) (hb : Below base W W') : W'.cell? ⟨p, i, none⟩ = some a ∧ W'.cell? ⟨p, j, none⟩ = some b :=
  ⟨(hb.cell (p := ⟨p, i, none⟩) hp).trans h.1, (hb.cell (p := ⟨p, j, none⟩) hp).trans h.2⟩
theorem fl_some {x p : Nat} (h : Fl x (some p)) : p = x := by
  rcases h.2 with ⟨_, e⟩ | ⟨_, e⟩
  · cases e; rfl
  · cases e
theorem fil_all {C : Nat → Int} (h : ∀ i, i < 20 → 0 ≤ C i ∧ C i < 256) : ∀ i, i < 8 → ∃ p q r s, outF (fN C) (fD C) (fA C) 3 2 i = some p ∧ outF (fN C) (fD C) (fB C) 3 2 i = some q ∧ outF (fN C) (fD C) (fC C) 3 2 i = some r ∧ fRun .add p q = some s ∧ FloatKind.f64.format.order s r = some .eq := fun i hi =>
  fil_add (a := fun j => C j % 9 - 4) (x := fun j => C (4 + j) - 128) (y := fun j => C (12 + j) - 128) (z := fun j => C (4 + j) + C (12 + j) - 256) (d := C 3 % 3 - 1) (fun _ _ => rfl) (fun _ _ => rfl) (fun _ _ => rfl) (fun _ _ => rfl) rfl rfl (fun j hj => by have := h j (by omega); omega) (fun j hj => by have := h (4 + j) (by omega); omega) (fun j hj => by have := h (12 + j) (by omega); omega) (fun j hj => by omega) (by omega) i hi
set_option maxHeartbeats 400000 in
theorem filters_far (w : World) (s : Option Addr) (n c : Nat) (h : (1048576 : Int) < n) :
    Calls Try.prog 3 #[.slice s n c] w fun e w' => e = .returned (.bool true) ∧ Below w.heap.size w w' := by
  go_enter Try.func3, Try.ntmps3
  go_wp2_with fail
  refine (big_yes _ _ _ _ h).mono ?_
  rintro e w1 ⟨rfl, rfl⟩
  go_wp2
  go_ret
  exact ⟨rfl, Below.refl _ _⟩
set_option maxHeartbeats 400000 in
theorem filters_few (w : World) (s : Option Addr) (n c : Nat) (h : (n : Int) < 20) :
    Calls Try.prog 3 #[.slice s n c] w fun e w' => e = .returned (.bool true) ∧ Below w.heap.size w w' := by
  go_enter Try.func3, Try.ntmps3
  go_wp2_with fail
  refine (big_no _ _ _ _ (by omega)).mono ?_
  rintro e w1 ⟨rfl, rfl⟩
  go_wp2
  go_ret
  exact ⟨rfl, Below.refl _ _⟩
set_option maxRecDepth 20000 in
set_option maxHeartbeats 8000000 in
theorem filters_near (w : World) (s : Option Addr) (n c : Nat) (hn : (n : Int) ≤ 1048576) (h20 : 20 ≤ n) (HC : Hid (Code8 w s n)) :
    Calls Try.prog 3 #[.slice s n c] w fun e w' => e = .returned (.bool true) ∧ Below w.heap.size w w' := by
  obtain ⟨g0, o0, C, rfl, hg0, hC⟩ := bytes_of HC.out (by omega)
  have HCC : Hid (∀ i, i < n → w.cell? ⟨g0, o0 + i, none⟩ = some (.int .u8 (C i)) ∧ 0 ≤ C i ∧ C i < 256) := hC
  have hcv := conv_run
  have n20 : decide ((n : Int) < 20) = false := decide_eq_false (by omega)
  have n3 : (3 : Int) < (n : Int) := by omega
  clear HC hC
  go_enter Try.func3, Try.ntmps3
  go_wp2_with fail
  refine (big_no _ _ _ _ hn).mono ?_
  rintro e w1 ⟨rfl, rfl⟩
  rename World => w
  obtain ⟨c3, l3, u3⟩ := HCC.out 3 (by omega)
  obtain ⟨x3, hx3⟩ : ∃ z, C 3 = z := ⟨_, rfl⟩
  rw [hx3] at c3 l3 u3
  go_upto_region 8 with fail
  obtain ⟨wa, hwa⟩ : ∃ z, z = ((((w.alloc (.cells #[] 25)).alloc (.cells #[.float .f64 4607182418800017408, .float .f64 (itf (x3 % 3 - 1))] 25)).alloc (.cells #[] 25)).alloc (.cells #[] 25)).alloc (.cells #[] 25) := ⟨_, rfl⟩
  rw [← hwa]
  have HB0 : Hid (Below w.heap.size w wa) := by show Below _ _ _; rw [hwa]; exact (by repeat (first | with_reducible exact Below.refl _ _ | with_reducible refine Below.setCell ?_ (by first | omega | (simp; done) | (simp; omega)) _ | with_reducible refine bDrewN ?_ _ | with_reducible refine Below.drew ?_ | with_reducible refine Below.alloc ?_ (by first | omega | (simp; done) | (simp; omega)) _))
  have HS0 : Hid (St w.heap.size wa w.heap.size 0 0 (w.heap.size + 1) 2 2 (w.heap.size + 2) 0 0 (w.heap.size + 3) 0 0 (w.heap.size + 4) 0 0 (fN C) (fD C) (fA C) (fB C) (fC C)) := by
    show St _ _ _ _ _ _ _ _ _ _ _ _ _ _ _ _ _ _ _ _ _ _
    rw [hwa]
    refine ⟨(LF.lit w _ _ (Nat.le_refl _)).below (by repeat (first | with_reducible exact Below.refl _ _ | with_reducible refine Below.setCell ?_ (by first | omega | (simp; done) | (simp; omega)) _ | with_reducible refine bDrewN ?_ _ | with_reducible refine Below.drew ?_ | with_reducible refine Below.alloc ?_ (by first | omega | (simp; done) | (simp; omega)) _)), LF.below ?_ (W := (w.alloc (.cells #[] 25)).alloc (.cells #[.float .f64 4607182418800017408, .float .f64 (itf (x3 % 3 - 1))] 25)) (by repeat (first | with_reducible exact Below.refl _ _ | with_reducible refine Below.setCell ?_ (by first | omega | (simp; done) | (simp; omega)) _ | with_reducible refine bDrewN ?_ _ | with_reducible refine Below.drew ?_ | with_reducible refine Below.alloc ?_ (by first | omega | (simp; done) | (simp; omega)) _)), LF.below ?_ (W := ((w.alloc (.cells #[] 25)).alloc (.cells #[.float .f64 4607182418800017408, .float .f64 (itf (x3 % 3 - 1))] 25)).alloc (.cells #[] 25)) (by repeat (first | with_reducible exact Below.refl _ _ | with_reducible refine Below.setCell ?_ (by first | omega | (simp; done) | (simp; omega)) _ | with_reducible refine bDrewN ?_ _ | with_reducible refine Below.drew ?_ | with_reducible refine Below.alloc ?_ (by first | omega | (simp; done) | (simp; omega)) _)), LF.below ?_ (W := (((w.alloc (.cells #[] 25)).alloc (.cells #[.float .f64 4607182418800017408, .float .f64 (itf (x3 % 3 - 1))] 25)).alloc (.cells #[] 25)).alloc (.cells #[] 25)) (by repeat (first | with_reducible exact Below.refl _ _ | with_reducible refine Below.setCell ?_ (by first | omega | (simp; done) | (simp; omega)) _ | with_reducible refine bDrewN ?_ _ | with_reducible refine Below.drew ?_ | with_reducible refine Below.alloc ?_ (by first | omega | (simp; done) | (simp; omega)) _)), ?_, by omega, by omega, by omega, by omega, by omega, by omega, by omega, by omega, by omega, by omega⟩
    · have := LF.two (w.alloc (.cells #[] 25)) w.heap.size 4607182418800017408 (itf (x3 % 3 - 1)) (fD C) (by simp) ⟨by decide, .inl ⟨by decide, rfl⟩⟩ (by unfold fD; rw [hx3]; exact itf_fl _)
      simpa using this
    · simpa using LF.lit ((w.alloc (.cells #[] 25)).alloc (.cells #[.float .f64 4607182418800017408, .float .f64 (itf (x3 % 3 - 1))] 25)) w.heap.size (fA C) (by simp; omega)
    · simpa using LF.lit (((w.alloc (.cells #[] 25)).alloc (.cells #[.float .f64 4607182418800017408, .float .f64 (itf (x3 % 3 - 1))] 25)).alloc (.cells #[] 25)) w.heap.size (fB C) (by simp; omega)
    · simpa using LF.lit ((((w.alloc (.cells #[] 25)).alloc (.cells #[.float .f64 4607182418800017408, .float .f64 (itf (x3 % 3 - 1))] 25)).alloc (.cells #[] 25)).alloc (.cells #[] 25)) w.heap.size (fC C) (by simp; omega)
  clear hwa c3 l3 u3 hx3
  go_wp2_with fail
  go_loopw [3, 8] (fun v i wx => ∃ k gn cn : Nat, k ≤ 3 ∧ i = .int .i64 k ∧ v = .slice (some ⟨gn, 0, none⟩) k cn ∧ Hid (St w.heap.size wx gn k cn (w.heap.size + 1) 2 2 (w.heap.size + 2) 0 0 (w.heap.size + 3) 0 0 (w.heap.size + 4) 0 0 (fN C) (fD C) (fA C) (fB C) (fC C)) ∧ Hid (Below w.heap.size w wx)) (fun _ i _ => 3 - (intOf i).toNat)
  case atStart => exact ⟨0, w.heap.size, 0, by omega, rfl, rfl, HS0, HB0⟩
  case round =>
    clear HS0 HB0
    obtain ⟨k, gn, cn, hk, rfl, rfl, HS, HB⟩ := hrel
    by_cases h1 : k < 3
    case pos =>
      have k1 : (k : Int) < 3 := by omega
      have k2 : (k : Int) < (n : Int) := by omega
      obtain ⟨c0, l0, u0⟩ := HCC.out k (by omega)
      obtain ⟨x, hx⟩ : ∃ z, C k = z := ⟨_, rfl⟩
      have hf : Fl (itf (x % 9 - 4)) (fN C k) := by unfold fN; rw [hx]; exact itf_fl _
      rw [hx] at c0 l0 u0
      replace c0 := (HB.out.cell (p := ⟨g0, o0 + k, none⟩) hg0).trans c0
      clear hx
      go_wp2_with (at_builtin; refine list_LF w.heap.size gn k cn (fN C) (.tmp 37) (.tmp 46) (by rfl) (by rfl) (by rfl) (by rfl) HS.out.1 hf (by omega) ?_; intro g' c' w2 hL hB hnew hkeep)
      have HS2 := HS.out.grow_n hL hnew hkeep
      have HB2 := HB.out.trans hB
      go_roundw
      case rel => exact ⟨k + 1, g', c', by omega, by go_num, rfl, HS2, HB2⟩
      case measure => first | (simp [intOf]; done) | (simp [intOf]; omega)
    case neg =>
      obtain rfl : k = 3 := by omega
      rw [show ((3 : Nat) : Int) = (3 : Int) from rfl]
      rename World => wz
      go_wp2_with fail
      go_loopw [5, 6, 7, 9] (fun va vb vc i wx => ∃ k j ga ca gb cb gc cc : Nat, k ≤ 8 ∧ j = 4 + k ∧ i = .int .i64 (j : Int) ∧ va = .slice (some ⟨ga, 0, none⟩) k ca ∧ vb = .slice (some ⟨gb, 0, none⟩) k cb ∧ vc = .slice (some ⟨gc, 0, none⟩) k cc ∧ Hid (St w.heap.size wx gn 3 cn (w.heap.size + 1) 2 2 ga k ca gb k cb gc k cc (fN C) (fD C) (fA C) (fB C) (fC C)) ∧ Hid (Below w.heap.size w wx)) (fun _ _ _ i _ => 12 - (intOf i).toNat)
      case atStart => exact ⟨0, 4, _, _, _, _, _, _, by omega, rfl, rfl, rfl, rfl, rfl, HS, HB⟩
      case round =>
        clear HS HB
        obtain ⟨k, j, ga, ca, gb, cb, gc, cc, hk, hj, rfl, rfl, rfl, rfl, HS, HB⟩ := hrel
        by_cases h1 : k < 8
        case neg =>
          obtain rfl : k = 8 := by omega
          obtain rfl : j = 12 := by omega
          have LN := HS.out.1
          have LD := HS.out.2.1
          have LA := HS.out.2.2.1
          have LB := HS.out.2.2.2.1
          have LC := HS.out.2.2.2.2.1
          have wA := LA.cap
          have wB := LB.cap
          have wC := LC.cap
          have HN : Hid (RowF wr (some ⟨gn, 0, none⟩) 3 (fN C)) := LN.row
          have HD : Hid (RowF wr (some ⟨w.heap.size + 1, 0, none⟩) 2 (fD C)) := LD.row
          have HA : Hid (RowF wr (some ⟨ga, 0, none⟩) 8 (fA C)) := LA.row
          have HBb : Hid (RowF wr (some ⟨gb, 0, none⟩) 8 (fB C)) := LB.row
          have HCc : Hid (RowF wr (some ⟨gc, 0, none⟩) 8 (fC C)) := LC.row
          have fm : filM 3 2 8 = 8 := rfl
          clear LN LD LA LB LC HS hk hj h1
          rename World => wy
          go_wp2_with fail
          refine (implFil_cap cn ca _ 3 (fN C) _ 2 (fD C) _ 8 (fA C) wy wA (by omega) (by omega) (by omega) HN HD HA).mono ?_
          rintro e w5 ⟨sx, cx, rfl, OX, B5⟩
          rw [fm] at OX ⊢
          have HX5 : Hid (RowF w5 sx 8 (outF (fN C) (fD C) (fA C) 3 2)) := OX.row
          replace HN : Hid (RowF w5 (some ⟨gn, 0, none⟩) 3 (fN C)) := HN.out.below B5
          replace HD : Hid (RowF w5 (some ⟨w.heap.size + 1, 0, none⟩) 2 (fD C)) := HD.out.below B5
          replace HBb : Hid (RowF w5 (some ⟨gb, 0, none⟩) 8 (fB C)) := HBb.out.below B5
          replace HCc : Hid (RowF w5 (some ⟨gc, 0, none⟩) 8 (fC C)) := HCc.out.below B5
          replace HB : Hid (Below w.heap.size w w5) := HB.out.trans (B5.mono HB.out.size)
          clear OX B5 HA
          go_wp2_with fail
          refine (implFil_cap cn cb _ 3 (fN C) _ 2 (fD C) _ 8 (fB C) w5 wB (by omega) (by omega) (by omega) HN HD HBb).mono ?_
          rintro e w6 ⟨sy, cy, rfl, OY, B6⟩
          rw [fm] at OY ⊢
          have HY6 : Hid (RowF w6 sy 8 (outF (fN C) (fD C) (fB C) 3 2)) := OY.row
          replace HX5 : Hid (RowF w6 sx 8 (outF (fN C) (fD C) (fA C) 3 2)) := HX5.out.below B6
          replace HN : Hid (RowF w6 (some ⟨gn, 0, none⟩) 3 (fN C)) := HN.out.below B6
          replace HD : Hid (RowF w6 (some ⟨w.heap.size + 1, 0, none⟩) 2 (fD C)) := HD.out.below B6
          replace HCc : Hid (RowF w6 (some ⟨gc, 0, none⟩) 8 (fC C)) := HCc.out.below B6
          replace HB : Hid (Below w.heap.size w w6) := HB.out.trans (B6.mono HB.out.size)
          clear OY B6 HBb
          go_wp2_with fail
          refine (implFil_cap cn cc _ 3 (fN C) _ 2 (fD C) _ 8 (fC C) w6 wC (by omega) (by omega) (by omega) HN HD HCc).mono ?_
          rintro e w7 ⟨sz, cz, rfl, OZ, B7⟩
          rw [fm] at OZ ⊢
          have HZ : Hid (RowF w7 sz 8 (outF (fN C) (fD C) (fC C) 3 2)) := OZ.row
          have HX : Hid (RowF w7 sx 8 (outF (fN C) (fD C) (fA C) 3 2)) := HX5.out.below B7
          have HY : Hid (RowF w7 sy 8 (outF (fN C) (fD C) (fB C) 3 2)) := HY6.out.below B7
          replace HB : Hid (Below w.heap.size w w7) := HB.out.trans (B7.mono HB.out.size)
          have HAD : Hid (∀ i, i < 8 → ∃ p q r s, outF (fN C) (fD C) (fA C) 3 2 i = some p ∧ outF (fN C) (fD C) (fB C) 3 2 i = some q ∧ outF (fN C) (fD C) (fC C) 3 2 i = some r ∧ fRun .add p q = some s ∧ FloatKind.f64.format.order s r = some .eq) := fil_all (fun i hi => (HCC.out i (by omega)).2)
          clear OZ B7 HCc HN HD HX5 HY6 HCC hcv wA wB wC fm
          go_wp2_with fail
          go_loopw [13] (fun i wx => ∃ k : Nat, k ≤ 8 ∧ i = .int .i64 k ∧ Below w7.heap.size w7 wx) (fun i _ => 8 - (intOf i).toNat)
          case atStart => exact ⟨0, by omega, rfl, Below.refl _ _⟩
          case round =>
            obtain ⟨k, hk, rfl, hX⟩ := hrel
            have HBX : Hid (Below w.heap.size w wr) := HB.out.trans (hX.mono HB.out.size)
            by_cases h1 : k < 8
            case neg =>
              obtain rfl : k = 8 := by omega
              clear hX
              go_wp2
              go_ret
              exact ⟨rfl, HBX.out⟩
            have k1 : (k : Int) < 8 := by omega
            obtain ⟨p, q, r, s, ep, eq, er, es, eo⟩ := HAD.out k h1
            obtain ⟨b1, o1, x1, rfl, l1, e1, f1⟩ := HX.out k h1
            obtain ⟨b2, o2, x2, rfl, l2, e2, f2⟩ := HY.out k h1
            obtain ⟨b3, o3, x3, rfl, l3, e3, f3⟩ := HZ.out k h1
            rw [ep] at f1
            rw [eq] at f2
            rw [er] at f3
            obtain rfl := fl_some f1
            obtain rfl := fl_some f2
            obtain rfl := fl_some f3
            replace e1 := (hX.cell (p := ⟨b1, o1 + k, none⟩) l1).trans e1
            replace e2 := (hX.cell (p := ⟨b2, o2 + k, none⟩) l2).trans e2
            replace e3 := (hX.cell (p := ⟨b3, o3 + k, none⟩) l3).trans e3
            have hadd : ∀ W, (binOp .add 25 (.float .f64 p) (.float .f64 q)).run Try.prog W = .ok (.float .f64 s) W := fun W => by rw [fRun_ran rfl, es]
            have HXX : Hid (Below w7.heap.size w7 wr) := hX
            clear ep eq er es f1 f2 f3 hX
            go_upto_region 26 with fail
            go_quiet (fail)
            go_wp2
            go_roundw
            case rel => exact ⟨k + 1, by omega, by go_num, HXX.out.trans ((below_drewN (Below.refl _ _) _).mono HXX.out.size)⟩
            case measure => first | (simp [intOf]; done) | (simp [intOf]; omega)
        case pos =>
          have j1 : (j : Int) < 12 := by omega
          have jn : (j : Int) < (n : Int) := by omega
          obtain ⟨J, hJ⟩ : ∃ J : Nat, J = j + 8 := ⟨_, rfl⟩
          have e8 : (j : Int) + 8 = (J : Int) := by omega
          have wJ : IntKind.i64.wrap (J : Int) = (J : Int) := by rw [IntKind.wrap_i64]; omega
          have Jn : (J : Int) < (n : Int) := by omega
          obtain ⟨cx, lx, ux⟩ := HCC.out j (by omega)
          obtain ⟨cy, ly, uy⟩ := HCC.out J (by omega)
          obtain ⟨x, hx⟩ : ∃ z, C j = z := ⟨_, rfl⟩
          obtain ⟨y, hy⟩ : ∃ z, C J = z := ⟨_, rfl⟩
          have ha4 : 4 + k = j := by omega
          have ha12 : 12 + k = J := by omega
          have hfa : Fl (itf (x - 128)) (fA C k) := by unfold fA; rw [ha4, hx]; exact itf_fl _
          have hfb : Fl (itf (y - 128)) (fB C k) := by unfold fB; rw [ha12, hy]; exact itf_fl _
          have hfc : Fl (itf (x + y - 256)) (fC C k) := by unfold fC; rw [ha4, ha12, hx, hy]; exact itf_fl _
          rw [hx] at cx lx ux
          rw [hy] at cy ly uy
          replace cx := (HB.out.cell (p := ⟨g0, o0 + j, none⟩) hg0).trans cx
          replace cy := (HB.out.cell (p := ⟨g0, o0 + J, none⟩) hg0).trans cy
          clear hx hy ha4 ha12
          have HJ : Hid (j = 4 + k) := hj
          clear hj hJ
          go_upto_region 16 with (at_builtin; refine list_LF w.heap.size ga k ca (fA C) (.tmp 52) (.tmp 60) (by rfl) (by rfl) (by rfl) (by rfl) HS.out.2.2.1 hfa (by omega) ?_; intro g1 c1 w2 hL1 hB1 hnew1 hkeep1)
          have HS2 : Hid (St w.heap.size w2 gn 3 cn (w.heap.size + 1) 2 2 g1 (k + 1) c1 gb k cb gc k cc (fN C) (fD C) (fA C) (fB C) (fC C)) := HS.out.grow_a hL1 hnew1 hkeep1
          have HB2 : Hid (Below w.heap.size w w2) := HB.out.trans hB1
          replace cx := (hB1.cell (p := ⟨g0, o0 + j, none⟩) hg0).trans cx
          replace cy := (hB1.cell (p := ⟨g0, o0 + J, none⟩) hg0).trans cy
          clear hL1 hB1 hnew1 hkeep1 HS HB hfa
          go_upto_region 17 with (at_builtin; refine list_LF w.heap.size gb k cb (fB C) (.tmp 62) (.tmp 71) (by rfl) (by rfl) (by rfl) (by rfl) HS2.out.2.2.2.1 hfb (by omega) ?_; intro g2 c2 w3 hL2 hB2 hnew2 hkeep2)
          have HS3 : Hid (St w.heap.size w3.drew gn 3 cn (w.heap.size + 1) 2 2 g1 (k + 1) c1 g2 (k + 1) c2 gc k cc (fN C) (fD C) (fA C) (fB C) (fC C)) := (HS2.out.grow_b hL2 hnew2 hkeep2).below (Below.drew (Below.refl _ _))
          have HB3 : Hid (Below w.heap.size w w3) := HB2.out.trans hB2
          replace cx := (hB2.cell (p := ⟨g0, o0 + j, none⟩) hg0).trans cx
          replace cy := (hB2.cell (p := ⟨g0, o0 + J, none⟩) hg0).trans cy
          have hgB : g0 < w3.heap.size := Nat.lt_of_lt_of_le hg0 HB3.out.size
          clear hL2 hB2 hnew2 hkeep2 HS2 HB2 hfb
          refine wp_region_held_drew (S := fun w' => w'.cell? ⟨g0, o0 + j, none⟩ = some (.int .u8 x) ∧ w'.cell? ⟨g0, o0 + J, none⟩ = some (.int .u8 y)) (by kernel_rfl) ?_ (fun hHeld => ?_)
          · exact ⟨cx, cy⟩
          refine wpAnyH_take (i := 0) (v := .slice (some ⟨gc, 0, none⟩) k cc) rfl (by kernel_rfl) (by kernel_rfl) (by kernel_rfl) (fun _ _ _ h => h) (Or.inl ⟨by kernel_rfl, ?_⟩) hHeld ?_
          · intro w' hSw
            obtain ⟨s0, s1⟩ := hSw
            first | (go_simp; done) | (go_simp; with_reducible rfl) | (go_simp; rw [IntKind.wrap_i64]; omega) | (go_simp; omega)
          simp only [Act.put, List.setIfInBounds_toArray, List.set_cons_zero, List.set_cons_succ]
          refine wpAnyH_take (i := 1) (v := .slice (some ⟨g0, o0, none⟩) n c) rfl (by kernel_rfl) (by kernel_rfl) (by kernel_rfl) (fun _ _ _ h => h) (Or.inl ⟨by kernel_rfl, ?_⟩) hHeld ?_
          · intro w' hSw
            obtain ⟨s0, s1⟩ := hSw
            first | (go_simp; done) | (go_simp; with_reducible rfl) | (go_simp; rw [IntKind.wrap_i64]; omega) | (go_simp; omega)
          simp only [Act.put, List.setIfInBounds_toArray, List.set_cons_zero, List.set_cons_succ]
          refine wpAnyH_take (i := 2) (v := .int .i64 (j : Int)) rfl (by kernel_rfl) (by kernel_rfl) (by kernel_rfl) (fun _ _ _ h => h) (Or.inl ⟨by kernel_rfl, ?_⟩) hHeld ?_
          · intro w' hSw
            obtain ⟨s0, s1⟩ := hSw
            first | (go_simp; done) | (go_simp; with_reducible rfl) | (go_simp; rw [IntKind.wrap_i64]; omega) | (go_simp; omega)
          simp only [Act.put, List.setIfInBounds_toArray, List.set_cons_zero, List.set_cons_succ]
          refine wpAnyH_take (i := 3) (v := .pointer (some ⟨g0, o0 + j, none⟩)) rfl (by kernel_rfl) (by kernel_rfl) (by kernel_rfl) (fun _ _ _ h => h) (Or.inl ⟨by kernel_rfl, ?_⟩) hHeld ?_
          · intro w' hSw
            obtain ⟨s0, s1⟩ := hSw
            first | (go_simp; done) | (go_simp; with_reducible rfl) | (go_simp; rw [IntKind.wrap_i64]; omega) | (go_simp; omega)
          simp only [Act.put, List.setIfInBounds_toArray, List.set_cons_zero, List.set_cons_succ]
          refine wpAnyH_take (i := 4) (v := .int .u8 x) rfl (by kernel_rfl) (by kernel_rfl) (by kernel_rfl) (fun _ _ _ h => h) (Or.inl ⟨by kernel_rfl, ?_⟩) hHeld ?_
          · intro w' hSw
            obtain ⟨s0, s1⟩ := hSw
            first | (go_simp; done) | (go_simp; with_reducible rfl) | (go_simp; rw [IntKind.wrap_i64]; omega) | (go_simp; omega)
          simp only [Act.put, List.setIfInBounds_toArray, List.set_cons_zero, List.set_cons_succ]
          refine wpAnyH_take (i := 5) (v := .int .i64 x) rfl (by kernel_rfl) (by kernel_rfl) (by kernel_rfl) (fun _ _ _ h => h) (Or.inl ⟨by kernel_rfl, ?_⟩) hHeld ?_
          · intro w' hSw
            obtain ⟨s0, s1⟩ := hSw
            first | (go_simp; done) | (go_simp; with_reducible rfl) | (go_simp; rw [IntKind.wrap_i64]; omega) | (go_simp; omega)
          simp only [Act.put, List.setIfInBounds_toArray, List.set_cons_zero, List.set_cons_succ]
          refine wpAnyH_take (i := 6) (v := .slice (some ⟨g0, o0, none⟩) n c) rfl (by kernel_rfl) (by kernel_rfl) (by kernel_rfl) (fun _ _ _ h => h) (Or.inl ⟨by kernel_rfl, ?_⟩) hHeld ?_
          · intro w' hSw
            obtain ⟨s0, s1⟩ := hSw
            first | (go_simp; done) | (go_simp; with_reducible rfl) | (go_simp; rw [IntKind.wrap_i64]; omega) | (go_simp; omega)
          simp only [Act.put, List.setIfInBounds_toArray, List.set_cons_zero, List.set_cons_succ]
          refine wpAnyH_take (i := 7) (v := .int .i64 (j : Int)) rfl (by kernel_rfl) (by kernel_rfl) (by kernel_rfl) (fun _ _ _ h => h) (Or.inl ⟨by kernel_rfl, ?_⟩) hHeld ?_
          · intro w' hSw
            obtain ⟨s0, s1⟩ := hSw
            first | (go_simp; done) | (go_simp; with_reducible rfl) | (go_simp; rw [IntKind.wrap_i64]; omega) | (go_simp; omega)
          simp only [Act.put, List.setIfInBounds_toArray, List.set_cons_zero, List.set_cons_succ]
          refine wpAnyH_take (i := 8) (v := .int .i64 (J : Int)) rfl (by kernel_rfl) (by kernel_rfl) (by kernel_rfl) (fun _ _ _ h => h) (Or.inl ⟨by kernel_rfl, ?_⟩) hHeld ?_
          · intro w' hSw
            obtain ⟨s0, s1⟩ := hSw
            first | (go_simp; done) | (go_simp; with_reducible rfl) | (go_simp; rw [IntKind.wrap_i64]; omega) | (go_simp; omega)
          simp only [Act.put, List.setIfInBounds_toArray, List.set_cons_zero, List.set_cons_succ]
          refine wpAnyH_take (i := 9) (v := .pointer (some ⟨g0, o0 + J, none⟩)) rfl (by kernel_rfl) (by kernel_rfl) (by kernel_rfl) (fun _ _ _ h => h) (Or.inl ⟨by kernel_rfl, ?_⟩) hHeld ?_
          · intro w' hSw
            obtain ⟨s0, s1⟩ := hSw
            first | (go_simp; done) | (go_simp; with_reducible rfl) | (go_simp; rw [IntKind.wrap_i64]; omega) | (go_simp; omega)
          simp only [Act.put, List.setIfInBounds_toArray, List.set_cons_zero, List.set_cons_succ]
          refine wpAnyH_take (i := 10) (v := .int .u8 y) rfl (by kernel_rfl) (by kernel_rfl) (by kernel_rfl) (fun _ _ _ h => h) (Or.inl ⟨by kernel_rfl, ?_⟩) hHeld ?_
          · intro w' hSw
            obtain ⟨s0, s1⟩ := hSw
            first | (go_simp; done) | (go_simp; with_reducible rfl) | (go_simp; rw [IntKind.wrap_i64]; omega) | (go_simp; omega)
          simp only [Act.put, List.setIfInBounds_toArray, List.set_cons_zero, List.set_cons_succ]
          refine wpAnyH_take (i := 11) (v := .int .i64 y) rfl (by kernel_rfl) (by kernel_rfl) (by kernel_rfl) (fun _ _ _ h => h) (Or.inl ⟨by kernel_rfl, ?_⟩) hHeld ?_
          · intro w' hSw
            obtain ⟨s0, s1⟩ := hSw
            first | (go_simp; done) | (go_simp; with_reducible rfl) | (go_simp; rw [IntKind.wrap_i64]; omega) | (go_simp; omega)
          simp only [Act.put, List.setIfInBounds_toArray, List.set_cons_zero, List.set_cons_succ]
          refine wpAnyH_take (i := 12) (v := .int .i64 (x + y)) rfl (by kernel_rfl) (by kernel_rfl) (by kernel_rfl) (fun _ _ _ h => h) (Or.inl ⟨by kernel_rfl, ?_⟩) hHeld ?_
          · intro w' hSw
            obtain ⟨s0, s1⟩ := hSw
            first | (go_simp; done) | (go_simp; with_reducible rfl) | (go_simp; rw [IntKind.wrap_i64]; omega) | (go_simp; omega)
          simp only [Act.put, List.setIfInBounds_toArray, List.set_cons_zero, List.set_cons_succ]
          refine wpAnyH_take (i := 13) (v := .int .i64 (x + y - 256)) rfl (by kernel_rfl) (by kernel_rfl) (by kernel_rfl) (fun _ _ _ h => h) (Or.inl ⟨by kernel_rfl, ?_⟩) hHeld ?_
          · intro w' hSw
            obtain ⟨s0, s1⟩ := hSw
            first | (go_simp; done) | (go_simp; with_reducible rfl) | (go_simp; rw [IntKind.wrap_i64]; omega) | (go_simp; omega)
          simp only [Act.put, List.setIfInBounds_toArray, List.set_cons_zero, List.set_cons_succ]
          refine wpAnyH_take (i := 14) (v := .float .f64 (itf (x + y - 256))) rfl (by kernel_rfl) (by kernel_rfl) (by kernel_rfl) (fun _ _ _ h => h) (Or.inl ⟨by kernel_rfl, ?_⟩) hHeld ?_
          · intro w' hSw
            obtain ⟨s0, s1⟩ := hSw
            first | (go_simp; done) | (go_simp; with_reducible rfl) | (go_simp; rw [IntKind.wrap_i64]; omega) | (go_simp; omega)
          simp only [Act.put, List.setIfInBounds_toArray, List.set_cons_zero, List.set_cons_succ]
          refine wpAnyH_ready (rs := [15]) (by kernel_rfl) (by simp) ?_
          refine AllReadyH.cons rfl (fun KK hK => ?_) AllReadyH.nil
          go_simp
          refine hK.out _ _ (keepF (W := w3) ⟨cx, cy⟩ hgB (show Below w3.heap.size w3 (w3.drew.alloc (.cells #[.float .f64 (itf (x + y - 256))] 25)) from (by repeat (first | with_reducible exact Below.refl _ _ | with_reducible refine Below.setCell ?_ (by first | omega | (simp; done) | (simp; omega)) _ | with_reducible refine bDrewN ?_ _ | with_reducible refine Below.drew ?_ | with_reducible refine Below.alloc ?_ (by first | omega | (simp; done) | (simp; omega)) _)))) (fun hHeld => ?_)
          clear hK KK
          refine wpAnyH_ready (rs := [16]) (by kernel_rfl) (by simp) ?_
          refine AllReadyH.cons rfl (fun KK hK => ?_) AllReadyH.nil
          refine wp_LF w.heap.size gc k cc (fC C) (.tmp 73) (.tmp 88) (by rfl) (by rfl) (by rfl) HS3.out.2.2.2.2.1 hfc (by omega) ?_
          intro g3 c3 w4 hL3 hB3 hnew3 hkeep3
          go_simp
          refine hK.out _ _ (keepF (W := w3.drew) ⟨cx, cy⟩ hg0 hB3) (fun hHeld => ?_)
          clear hK KK
          refine wpAnyH_ready (rs := [17]) (by kernel_rfl) (by simp) ?_
          refine AllReadyH.cons rfl (fun KK hK => ?_) AllReadyH.nil
          go_simp
          refine hK.out _ _ hHeld (fun hHeld => ?_)
          clear hK KK
          refine wpAnyH_done (by kernel_rfl) ?_ _
          have HS4 : Hid (St w.heap.size w4 gn 3 cn (w.heap.size + 1) 2 2 g1 (k + 1) c1 g2 (k + 1) c2 g3 (k + 1) c3 (fN C) (fD C) (fA C) (fB C) (fC C)) := HS3.out.grow_c hL3 hnew3 hkeep3
          have HB4 : Hid (Below w.heap.size w w4) := (HB3.out.trans ((Below.drew (Below.refl _ w3)).mono HB3.out.size)).trans hB3
          clear hHeld hL3 hB3 hnew3 hkeep3 HS3 HB3
          go_wp2
          go_roundw
          case rel =>
            exact ⟨k + 1, j + 1, g1, c1, g2, c2, g3, c3, by omega, by have := HJ.out; omega, by go_num, rfl, rfl, rfl, HS4, HB4⟩
          case measure => first | (simp [intOf]; done) | (simp [intOf]; omega)
theorem fnFilters_walk (w : World) (s : Option Addr) (n c : Nat) (hn : n ≤ 9223372036854775807) (R : Bytes w s n) :
    Calls Try.prog 3 #[.slice s n c] w fun e w' => e = .returned (.bool true) ∧ Below w.heap.size w w' := by
  by_cases h : n ≤ 1048576
  · by_cases h2 : 20 ≤ n
    · exact filters_near w s n c (by omega) h2 (R.code h)
    · exact filters_few w s n c (by omega)
  · exact filters_far w s n c (by omega)

set_option maxRecDepth 100000 in
theorem fnFilters_lifted (os : Os) (started : os.Started) (H : Type) (enc : TypeId × Value → H) :
    ReturnsInHanded {} Try.checked os 3 .any (Rows.fnFiltersSpec.pre6 enc Try.prog Try.f3 Rows.fnFiltersRow.domain false) (Rows.fnFiltersSpec.post enc Try.prog Try.f3 false true false false) := by
  refine returnsInHanded_of_change (C := Try.checked) own started (by kernel_rfl) Try.func3
    (ChangeSpec.witness6 (enc := enc) (C := Try.checked) false ⟨#[], #[.slice none 0 0], []⟩ 8 (by kernel_rfl) (by kernel_rfl) (by kernel_rfl) (by kernel_rfl)) ?_
  intro W base args ds gs before hval0 hW hcnd _
  have hval : ∀ (j : Nat) t v, Try.f3.params[j]? = some t → args[j]? = some v → Value.okWide Try.prog W .any base t v := hval0
  have hW' := hW
  obtain ⟨p, q, hA0, hV, rfl, hfz, hnd⟩ := hW
  have hA : DataW.TrodAll enc Try.prog W 0 (fun _ => true) true Try.f3.params.toList args.toList ds p := hA0
  rw [Try.params3] at hA hval
  obtain ⟨v0, vs0, d0, ds0, p0, q0, hargs, rfl, rfl, h0, r0⟩ := trodAll_cons hA
  obtain ⟨rfl, rfl, rfl⟩ := trodAll_nil r0
  obtain rfl : args = #[v0] := by cases args; simp_all
  obtain ⟨rfl, rfl⟩ := trodVars_none hV
  have k0 := h0
  have lt0 : ∀ x ∈ p0, x.block < W.heap.size := by obtain ⟨m, hm⟩ := k0; exact DataW.trod_lt m _ _ _ hm
  obtain ⟨s0, n0, c0, rfl, m0, R0⟩ := open_code Try.underlying22 Try.underlying5 (by kernel_rfl) (hval 0 22 v0 rfl rfl) h0
  clear hA0 hval0
  refine (fnFilters_walk W s0 n0 c0 m0 R0).mono fun e W' ⟨he, bel⟩ => ?_
  subst he
  exact ⟨_, rfl, _, _, _, [], _, [], hW', trodAll_mk1 (shut_bool Try.underlying4 _), (trodAll_cons_mk (Below.trod laidOut (by kernel_rfl) (of_decide_eq_true (by kernel_rfl)) k0 bel lt0) trodAll_mk0), rfl, bel.frame _, fun h => by cases h⟩

theorem fnFilters_holds : Rows.FnFiltersSaid :=
  OpenClaim.holds_of_wide 3 Try.f3 rfl rfl rfl rfl rfl rfl rfl ⟨rfl, rfl, rfl, rfl, rfl⟩ rfl rfl rfl rfl rfl (by kernel_rfl) Try.func3 (by kernel_rfl)
    (of_decide_eq_true (by kernel_rfl)) (by unfold Func.isWrapper; first | (rw [if_pos (by decide +kernel)]; kernel_rfl) | (rw [if_neg (by decide +kernel)]; exact ⟨rfl, rfl⟩))
    (fun os started H enc _ => fnFilters_lifted os started H enc)
#print axioms fnFilters_holds
end Go.Proofs.Ytebbkcbpecpolaa
