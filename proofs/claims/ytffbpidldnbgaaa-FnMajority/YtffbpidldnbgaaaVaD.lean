/-
What is proved: a list of float64s and one more that are drawn from a code: any, up to 17.
-/
import Derived.Test.YtffbpidldnbgaaaLFc
import Derived.Test.YtffbpidldnbgaaaTeY
import Derived.Test.YtffbpidldnbgaaaRdC
import Derived.Deep.DeepCutAuto
import Derived.RegionTactic
namespace Go.Proofs.Ytffbpidldnbgaaa
set_option maxRecDepth 40000
open Go.ChangeShapes Go.WideShapes Go.ChangeAt Go.RowKit
set_option linter.unusedVariables false
set_option linter.unusedSimpArgs false

def VaPost (w : World) (e : Ending) (w' : World) : Prop := ∃ (t : Option Addr) (m cap : Nat) (V : Nat → Option Nat) (z : Nat), e = .returned (.tuple #[.slice t m cap, .float .f64 z]) ∧ m ≤ 17 ∧ z < 18446744073709551616 ∧ RowF w' t m V ∧ Below w.heap.size w w'
set_option maxRecDepth 20000 in
set_option maxHeartbeats 8000000 in
theorem drawValidate_any {s : Option Addr} {n c : Nat} {w : World} (h : Hid (Code8 w s n)) :
    Calls Try.prog 7 #[.slice s n c] w fun e w' => VaPost w e w' := by
  go_enter Try.func7, Try.ntmps7
  go_wp2_with fail
  refine (open_any (h.out.below (by repeat (first | with_reducible exact Below.refl _ _ | with_reducible refine Below.setCell ?_ (by first | omega | (simp; done) | (simp; omega)) _ | with_reducible refine bDrewN ?_ _ | with_reducible refine Below.drew ?_ | with_reducible refine Below.alloc ?_ (by first | omega | (simp; done) | (simp; omega)) _)))).mono ?_
  rintro e w1 ⟨rfl, R_, b_⟩
  obtain ⟨r, hr⟩ : ∃ r, r = w.heap.size := ⟨_, rfl⟩
  have HR : Hid (Rd w1 r s n c 0) := by show Rd _ _ _ _ _ _; rw [hr]; simpa using R_
  have HB : Hid (Below w.heap.size w w1) := b_
  have zr : w.heap.size ≤ r := by omega
  try rw [← hr]
  clear R_ b_ h hr
  go_wp2_with fail
  refine (tenth_any (HR.out.below (by repeat (first | with_reducible exact Below.refl _ _ | with_reducible refine Below.setCell ?_ (by first | omega | (simp; done) | (simp; omega)) _ | with_reducible refine bDrewN ?_ _ | with_reducible refine Below.drew ?_ | with_reducible refine Below.alloc ?_ (by first | omega | (simp; done) | (simp; omega)) _))) 0 900 (by omega) (by omega) (by omega)).mono ?_
  rintro e w2 ⟨x, px, rfl, hx, R_, b_⟩
  have sz_ : w.heap.size ≤ w1.heap.size := HB.out.size
  have zr_ : r < w1.heap.size := HR.out.1
  have bb : Beside r w1 w2 := (Beside.of (show Below w1.heap.size w1 _ from (by repeat (first | with_reducible exact Below.refl _ _ | with_reducible refine Below.setCell ?_ (by first | omega | (simp; done) | (simp; omega)) _ | with_reducible refine bDrewN ?_ _ | with_reducible refine Below.drew ?_ | with_reducible refine Below.alloc ?_ (by first | omega | (simp; done) | (simp; omega)) _)))).trans b_
  replace HB : Hid (Below w.heap.size w w2) := HB.out.trans (bb.below (by omega) HB.out.size)
  replace HR : Hid (Rd w2 r s n c px) := R_
  clear R_ bb b_ sz_ zr_
  have fx := fl_of x hx
  go_upto_region 4 with fail
  obtain ⟨w3, hw_⟩ : ∃ z, z = w2.alloc (.cells #[] 25) := ⟨_, rfl⟩
  rw [← hw_]
  have zr_ : r < w2.heap.size := HR.out.1
  have bl : Below w2.heap.size w2 w3 := by rw [hw_]; exact (by repeat (first | with_reducible exact Below.refl _ _ | with_reducible refine Below.setCell ?_ (by first | omega | (simp; done) | (simp; omega)) _ | with_reducible refine bDrewN ?_ _ | with_reducible refine Below.drew ?_ | with_reducible refine Below.alloc ?_ (by first | omega | (simp; done) | (simp; omega)) _))
  have HO : Hid (LA (r + 1) w3 w2.heap.size 0 0) := by show LA _ _ _ _ _; rw [hw_]; exact ⟨fun _ => none, LF.lit w2 _ _ (by omega)⟩
  replace HR : Hid (Rd w3 r s n c px) := HR.out.below bl
  replace HB : Hid (Below w.heap.size w w3) := HB.out.trans (bl.mono HB.out.size)
  obtain ⟨g, hg⟩ : ∃ z, z = w2.heap.size := ⟨_, rfl⟩
  rw [← hg] at HO ⊢
  clear hw_ bl zr_ hg
  have cr : w3.cell? ⟨r, 0, none⟩ = some (.slice s n c) := HR.out.2.2.1
  have n9 : (n : Int) ≤ 1048576 := by have := HR.out.2.2.2.2.2.1; omega
  obtain ⟨q, hq⟩ : ∃ q : Nat, (n : Int) / 4 = (q : Int) := ⟨n / 4, by omega⟩
  have q9 : (q : Int) ≤ 262144 := by omega
  go_wp2_with fail
  all_goals
    clear cr hq n9
    refine (below_any _ (HR.out.below (by repeat (first | with_reducible exact Below.refl _ _ | with_reducible refine Below.setCell ?_ (by first | omega | (simp; done) | (simp; omega)) _ | with_reducible refine bDrewN ?_ _ | with_reducible refine Below.drew ?_ | with_reducible refine Below.alloc ?_ (by first | omega | (simp; done) | (simp; omega)) _)))).mono ?_
    rintro e w4 ⟨nn, pn, rfl, nn0, -, nn2, R_, b_⟩
    have sz_ : w.heap.size ≤ w3.heap.size := HB.out.size
    have zr_ : r < w3.heap.size := HR.out.1
    have bb : Beside r w3 w4 := (Beside.of (show Below w3.heap.size w3 _ from (by repeat (first | with_reducible exact Below.refl _ _ | with_reducible refine Below.setCell ?_ (by first | omega | (simp; done) | (simp; omega)) _ | with_reducible refine bDrewN ?_ _ | with_reducible refine Below.drew ?_ | with_reducible refine Below.alloc ?_ (by first | omega | (simp; done) | (simp; omega)) _)))).trans b_
    replace HO : Hid (LA (r + 1) w4 g 0 0) := HO.out.beside bb (by omega)
    replace HB : Hid (Below w.heap.size w w4) := HB.out.trans (bb.below (by omega) HB.out.size)
    replace HR : Hid (Rd w4 r s n c pn) := R_
    clear R_ bb b_ sz_ zr_
    have nn5 : nn ≤ 5 := by omega
    clear nn2
    obtain ⟨N, hN⟩ : ∃ N : Int, 1 + nn = N := ⟨_, rfl⟩
    have N1 : 1 ≤ N := by omega
    have N6 : N ≤ 6 := by omega
    go_upto_region 5 with fail
    try rw [hN]
    clear hN nn0 nn5
    go_wp2_with fail
    go_loopw [6, 7] (fun v i wx => ∃ k g cap p : Nat, (k : Int) ≤ N ∧ i = .int .i64 (N - k) ∧ v = .slice (some ⟨g, 0, none⟩) k cap ∧ Hid (Rd wx r s n c p) ∧ Hid (Below w.heap.size w wx) ∧ Hid (LA (r + 1) wx g k cap)) (fun _ i _ => (intOf i).toNat)
    case atStart => exact ⟨0, g, 0, pn, by omega, by simp, rfl, HR, HB, HO⟩
    case round =>
      clear HR HB HO
      obtain ⟨k, ga, ca, p5, hk, rfl, rfl, HR, HB, HO⟩ := hrel
      by_cases hlt : (k : Int) < N
      case pos =>
        have q0 : 0 < N - (k : Int) := by omega
        go_wp2_with fail
        refine (below_any 6 (HR.out.below (by repeat (first | with_reducible exact Below.refl _ _ | with_reducible refine Below.setCell ?_ (by first | omega | (simp; done) | (simp; omega)) _ | with_reducible refine bDrewN ?_ _ | with_reducible refine Below.drew ?_ | with_reducible refine Below.alloc ?_ (by first | omega | (simp; done) | (simp; omega)) _)))).mono ?_
        rintro e w5 ⟨kk, pk, rfl, kk0, -, kk2, R_, b_⟩
        have sz_ : w.heap.size ≤ wr.heap.size := HB.out.size
        have zr_ : r < wr.heap.size := HR.out.1
        have bb : Beside r wr w5 := (Beside.of (show Below wr.heap.size wr _ from (by repeat (first | with_reducible exact Below.refl _ _ | with_reducible refine Below.setCell ?_ (by first | omega | (simp; done) | (simp; omega)) _ | with_reducible refine bDrewN ?_ _ | with_reducible refine Below.drew ?_ | with_reducible refine Below.alloc ?_ (by first | omega | (simp; done) | (simp; omega)) _)))).trans b_
        replace HO : Hid (LA (r + 1) w5 ga k ca) := HO.out.beside bb (by omega)
        replace HB : Hid (Below w.heap.size w w5) := HB.out.trans (bb.below (by omega) HB.out.size)
        replace HR : Hid (Rd w5 r s n c pk) := R_
        clear R_ bb b_ sz_ zr_
        clear kk2
        by_cases e0 : kk = 0
        case pos =>
          subst e0
          go_wp2_with fail
          refine (float_any (HR.out.below (by repeat (first | with_reducible exact Below.refl _ _ | with_reducible refine Below.setCell ?_ (by first | omega | (simp; done) | (simp; omega)) _ | with_reducible refine bDrewN ?_ _ | with_reducible refine Below.drew ?_ | with_reducible refine Below.alloc ?_ (by first | omega | (simp; done) | (simp; omega)) _)))).mono ?_
          rintro e w6 ⟨y, py, rfl, hy, R_, b_⟩
          have sz_ : w.heap.size ≤ w5.heap.size := HB.out.size
          have zr_ : r < w5.heap.size := HR.out.1
          have bb : Beside r w5 w6 := (Beside.of (show Below w5.heap.size w5 _ from (by repeat (first | with_reducible exact Below.refl _ _ | with_reducible refine Below.setCell ?_ (by first | omega | (simp; done) | (simp; omega)) _ | with_reducible refine bDrewN ?_ _ | with_reducible refine Below.drew ?_ | with_reducible refine Below.alloc ?_ (by first | omega | (simp; done) | (simp; omega)) _)))).trans b_
          replace HO : Hid (LA (r + 1) w6 ga k ca) := HO.out.beside bb (by omega)
          replace HB : Hid (Below w.heap.size w w6) := HB.out.trans (bb.below (by omega) HB.out.size)
          replace HR : Hid (Rd w6 r s n c py) := R_
          clear R_ bb b_ sz_ zr_
          have fy := fl_of y hy
          go_wp2_with (first | (at_builtin; refine list_LA (r + 1) ga k ca (.tmp 41) (.tmp 44) (by rfl) (by rfl) (by rfl) (by rfl) HO.out fy (by omega) ?_; intro g7 cap7 w7 hL hB))
          have zr_ : r < w6.heap.size := HR.out.1
          have zw_ : w.heap.size ≤ w6.heap.size := HB.out.size
          have hB2 : Below (r + 1) w6 w7 := (show Below (r + 1) w6 w6 from (by repeat (first | with_reducible exact Below.refl _ _ | with_reducible refine Below.setCell ?_ (by first | omega | (simp; done) | (simp; omega)) _ | with_reducible refine bDrewN ?_ _ | with_reducible refine Below.drew ?_ | with_reducible refine Below.alloc ?_ (by first | omega | (simp; done) | (simp; omega)) _))).trans hB
          replace HO : Hid (LA (r + 1) w7 g7 (k + 1) cap7) := hL
          replace HR : Hid (Rd w7 r s n c py) := Rd.below' HR.out hB2
          replace HB : Hid (Below w.heap.size w w7) := HB.out.trans (hB2.mono (by omega))
          clear hL hB hB2 zr_ zw_
          go_wp2
          go_roundw
          case rel => exact ⟨k + 1, g7, cap7, py, by omega, by congr 1; omega, rfl, HR, HB, HO⟩
          case measure => simp [intOf]; omega
        have ne0 : (kk == 0) = false := by simpa using e0
        by_cases e1 : kk = 1
        case pos =>
          subst e1
          go_wp2_with fail
          refine (tenth_any (HR.out.below (by repeat (first | with_reducible exact Below.refl _ _ | with_reducible refine Below.setCell ?_ (by first | omega | (simp; done) | (simp; omega)) _ | with_reducible refine bDrewN ?_ _ | with_reducible refine Below.drew ?_ | with_reducible refine Below.alloc ?_ (by first | omega | (simp; done) | (simp; omega)) _))) (-90) 90 (by omega) (by omega) (by omega)).mono ?_
          rintro e w8 ⟨y, py, rfl, hy, R_, b_⟩
          have sz_ : w.heap.size ≤ w5.heap.size := HB.out.size
          have zr_ : r < w5.heap.size := HR.out.1
          have bb : Beside r w5 w8 := (Beside.of (show Below w5.heap.size w5 _ from (by repeat (first | with_reducible exact Below.refl _ _ | with_reducible refine Below.setCell ?_ (by first | omega | (simp; done) | (simp; omega)) _ | with_reducible refine bDrewN ?_ _ | with_reducible refine Below.drew ?_ | with_reducible refine Below.alloc ?_ (by first | omega | (simp; done) | (simp; omega)) _)))).trans b_
          replace HO : Hid (LA (r + 1) w8 ga k ca) := HO.out.beside bb (by omega)
          replace HB : Hid (Below w.heap.size w w8) := HB.out.trans (bb.below (by omega) HB.out.size)
          replace HR : Hid (Rd w8 r s n c py) := R_
          clear R_ bb b_ sz_ zr_
          have fy := fl_of y hy
          go_wp2_with (first | (refine list_fop .add rfl _ _ _ _ (by rfl) (by rfl) (by rfl) (by rfl) fx fy ?_; intro z9 nz9 fz9) | (at_builtin; refine list_LA (r + 1) ga k ca (.tmp 48) (.tmp 53) (by rfl) (by rfl) (by rfl) (by rfl) (HO.out.below (show Below w8.heap.size w8 (w8.drewN nz9) from (by repeat (first | with_reducible exact Below.refl _ _ | with_reducible refine Below.setCell ?_ (by first | omega | (simp; done) | (simp; omega)) _ | with_reducible refine bDrewN ?_ _ | with_reducible refine Below.drew ?_ | with_reducible refine Below.alloc ?_ (by first | omega | (simp; done) | (simp; omega)) _)))) fz9 (by omega) ?_; intro g9 cap9 w9 hL hB))
          have zr_ : r < w8.heap.size := HR.out.1
          have zw_ : w.heap.size ≤ w8.heap.size := HB.out.size
          have hB2 : Below (r + 1) w8 w9 := (show Below (r + 1) w8 (w8.drewN nz9) from (by repeat (first | with_reducible exact Below.refl _ _ | with_reducible refine Below.setCell ?_ (by first | omega | (simp; done) | (simp; omega)) _ | with_reducible refine bDrewN ?_ _ | with_reducible refine Below.drew ?_ | with_reducible refine Below.alloc ?_ (by first | omega | (simp; done) | (simp; omega)) _))).trans hB
          replace HO : Hid (LA (r + 1) w9 g9 (k + 1) cap9) := hL
          replace HR : Hid (Rd w9 r s n c py) := Rd.below' HR.out hB2
          replace HB : Hid (Below w.heap.size w w9) := HB.out.trans (hB2.mono (by omega))
          clear hL hB hB2 zr_ zw_
          go_wp2
          go_roundw
          case rel => exact ⟨k + 1, g9, cap9, py, by omega, by congr 1; omega, rfl, HR, HB, HO⟩
          case measure => simp [intOf]; omega
        have ne1 : (kk == 1) = false := by simpa using e1
        go_wp2_with fail
        refine (tenth_any (HR.out.below (by repeat (first | with_reducible exact Below.refl _ _ | with_reducible refine Below.setCell ?_ (by first | omega | (simp; done) | (simp; omega)) _ | with_reducible refine bDrewN ?_ _ | with_reducible refine Below.drew ?_ | with_reducible refine Below.alloc ?_ (by first | omega | (simp; done) | (simp; omega)) _))) (-6) 6 (by omega) (by omega) (by omega)).mono ?_
        rintro e w10 ⟨y, py, rfl, hy, R_, b_⟩
        have sz_ : w.heap.size ≤ w5.heap.size := HB.out.size
        have zr_ : r < w5.heap.size := HR.out.1
        have bb : Beside r w5 w10 := (Beside.of (show Below w5.heap.size w5 _ from (by repeat (first | with_reducible exact Below.refl _ _ | with_reducible refine Below.setCell ?_ (by first | omega | (simp; done) | (simp; omega)) _ | with_reducible refine bDrewN ?_ _ | with_reducible refine Below.drew ?_ | with_reducible refine Below.alloc ?_ (by first | omega | (simp; done) | (simp; omega)) _)))).trans b_
        replace HO : Hid (LA (r + 1) w10 ga k ca) := HO.out.beside bb (by omega)
        replace HB : Hid (Below w.heap.size w w10) := HB.out.trans (bb.below (by omega) HB.out.size)
        replace HR : Hid (Rd w10 r s n c py) := R_
        clear R_ bb b_ sz_ zr_
        have fy := fl_of y hy
        go_wp2_with (first | (refine list_fop .add rfl _ _ _ _ (by rfl) (by rfl) (by rfl) (by rfl) fx fy ?_; intro z11 nz11 fz11) | (at_builtin; refine list_LA (r + 1) ga k ca (.tmp 32) (.tmp 37) (by rfl) (by rfl) (by rfl) (by rfl) (HO.out.below (show Below w10.heap.size w10 (w10.drewN nz11) from (by repeat (first | with_reducible exact Below.refl _ _ | with_reducible refine Below.setCell ?_ (by first | omega | (simp; done) | (simp; omega)) _ | with_reducible refine bDrewN ?_ _ | with_reducible refine Below.drew ?_ | with_reducible refine Below.alloc ?_ (by first | omega | (simp; done) | (simp; omega)) _)))) fz11 (by omega) ?_; intro g11 cap11 w11 hL hB))
        have zr_ : r < w10.heap.size := HR.out.1
        have zw_ : w.heap.size ≤ w10.heap.size := HB.out.size
        have hB2 : Below (r + 1) w10 w11 := (show Below (r + 1) w10 (w10.drewN nz11) from (by repeat (first | with_reducible exact Below.refl _ _ | with_reducible refine Below.setCell ?_ (by first | omega | (simp; done) | (simp; omega)) _ | with_reducible refine bDrewN ?_ _ | with_reducible refine Below.drew ?_ | with_reducible refine Below.alloc ?_ (by first | omega | (simp; done) | (simp; omega)) _))).trans hB
        replace HO : Hid (LA (r + 1) w11 g11 (k + 1) cap11) := hL
        replace HR : Hid (Rd w11 r s n c py) := Rd.below' HR.out hB2
        replace HB : Hid (Below w.heap.size w w11) := HB.out.trans (hB2.mono (by omega))
        clear hL hB hB2 zr_ zw_
        go_wp2
        go_roundw
        case rel => exact ⟨k + 1, g11, cap11, py, by omega, by congr 1; omega, rfl, HR, HB, HO⟩
        case measure => simp [intOf]; omega
      case neg =>
        obtain rfl : (k : Int) = N := by omega
        rename World => wl
        have k6 : k ≤ 6 := by omega
        clear hk hlt N1 N6
        go_wp2_with fail
        refine (once_any 24 (by omega) (by omega) (HR.out.below (by repeat (first | with_reducible exact Below.refl _ _ | with_reducible refine Below.setCell ?_ (by first | omega | (simp; done) | (simp; omega)) _ | with_reducible refine bDrewN ?_ _ | with_reducible refine Below.drew ?_ | with_reducible refine Below.alloc ?_ (by first | omega | (simp; done) | (simp; omega)) _)))).mono ?_
        rintro e w12 ⟨f1, p1, rfl, R_, b_⟩
        have sz_ : w.heap.size ≤ wl.heap.size := HB.out.size
        have zr_ : r < wl.heap.size := HR.out.1
        have bb : Beside r wl w12 := (Beside.of (show Below wl.heap.size wl _ from (by repeat (first | with_reducible exact Below.refl _ _ | with_reducible refine Below.setCell ?_ (by first | omega | (simp; done) | (simp; omega)) _ | with_reducible refine bDrewN ?_ _ | with_reducible refine Below.drew ?_ | with_reducible refine Below.alloc ?_ (by first | omega | (simp; done) | (simp; omega)) _)))).trans b_
        replace HO : Hid (LA (r + 1) w12 ga k ca) := HO.out.beside bb (by omega)
        replace HB : Hid (Below w.heap.size w w12) := HB.out.trans (bb.below (by omega) HB.out.size)
        replace HR : Hid (Rd w12 r s n c p1) := R_
        clear R_ bb b_ sz_ zr_
        cases f1
        case false =>
          go_wp2_with fail
          refine (once_any 24 (by omega) (by omega) (HR.out.below (by repeat (first | with_reducible exact Below.refl _ _ | with_reducible refine Below.setCell ?_ (by first | omega | (simp; done) | (simp; omega)) _ | with_reducible refine bDrewN ?_ _ | with_reducible refine Below.drew ?_ | with_reducible refine Below.alloc ?_ (by first | omega | (simp; done) | (simp; omega)) _)))).mono ?_
          rintro e w13 ⟨f2, p2, rfl, R_, b_⟩
          have sz_ : w.heap.size ≤ w12.heap.size := HB.out.size
          have zr_ : r < w12.heap.size := HR.out.1
          have bb : Beside r w12 w13 := (Beside.of (show Below w12.heap.size w12 _ from (by repeat (first | with_reducible exact Below.refl _ _ | with_reducible refine Below.setCell ?_ (by first | omega | (simp; done) | (simp; omega)) _ | with_reducible refine bDrewN ?_ _ | with_reducible refine Below.drew ?_ | with_reducible refine Below.alloc ?_ (by first | omega | (simp; done) | (simp; omega)) _)))).trans b_
          replace HO : Hid (LA (r + 1) w13 ga k ca) := HO.out.beside bb (by omega)
          replace HB : Hid (Below w.heap.size w w13) := HB.out.trans (bb.below (by omega) HB.out.size)
          replace HR : Hid (Rd w13 r s n c p2) := R_
          clear R_ bb b_ sz_ zr_
          have capl := HO.out.cap
          cases f2
          case false =>
            go_wp2_with fail
            refine (tenth_any (HR.out.below (by repeat (first | with_reducible exact Below.refl _ _ | with_reducible refine Below.setCell ?_ (by first | omega | (simp; done) | (simp; omega)) _ | with_reducible refine bDrewN ?_ _ | with_reducible refine Below.drew ?_ | with_reducible refine Below.alloc ?_ (by first | omega | (simp; done) | (simp; omega)) _))) 0 12 (by omega) (by omega) (by omega)).mono ?_
            rintro e w14 ⟨za, pz, rfl, hza, R_, b_⟩
            have sz_ : w.heap.size ≤ w13.heap.size := HB.out.size
            have zr_ : r < w13.heap.size := HR.out.1
            have bb : Beside r w13 w14 := (Beside.of (show Below w13.heap.size w13 _ from (by repeat (first | with_reducible exact Below.refl _ _ | with_reducible refine Below.setCell ?_ (by first | omega | (simp; done) | (simp; omega)) _ | with_reducible refine bDrewN ?_ _ | with_reducible refine Below.drew ?_ | with_reducible refine Below.alloc ?_ (by first | omega | (simp; done) | (simp; omega)) _)))).trans b_
            replace HO : Hid (LA (r + 1) w14 ga k ca) := HO.out.beside bb (by omega)
            replace HB : Hid (Below w.heap.size w w14) := HB.out.trans (bb.below (by omega) HB.out.size)
            replace HR : Hid (Rd w14 r s n c pz) := R_
            clear R_ bb b_ sz_ zr_
            go_wp2_with fail
            refine (once_any 12 (by omega) (by omega) (HR.out.below (by repeat (first | with_reducible exact Below.refl _ _ | with_reducible refine Below.setCell ?_ (by first | omega | (simp; done) | (simp; omega)) _ | with_reducible refine bDrewN ?_ _ | with_reducible refine Below.drew ?_ | with_reducible refine Below.alloc ?_ (by first | omega | (simp; done) | (simp; omega)) _)))).mono ?_
            rintro e w15 ⟨f3, p3, rfl, R_, b_⟩
            have sz_ : w.heap.size ≤ w14.heap.size := HB.out.size
            have zr_ : r < w14.heap.size := HR.out.1
            have bb : Beside r w14 w15 := (Beside.of (show Below w14.heap.size w14 _ from (by repeat (first | with_reducible exact Below.refl _ _ | with_reducible refine Below.setCell ?_ (by first | omega | (simp; done) | (simp; omega)) _ | with_reducible refine bDrewN ?_ _ | with_reducible refine Below.drew ?_ | with_reducible refine Below.alloc ?_ (by first | omega | (simp; done) | (simp; omega)) _)))).trans b_
            replace HO : Hid (LA (r + 1) w15 ga k ca) := HO.out.beside bb (by omega)
            replace HB : Hid (Below w.heap.size w w15) := HB.out.trans (bb.below (by omega) HB.out.size)
            replace HR : Hid (Rd w15 r s n c p3) := R_
            clear R_ bb b_ sz_ zr_
            cases f3
            case false =>
              obtain ⟨VV, hV⟩ := HO.out
              have BF := HB.out
              have RV : RowF w15 (some ⟨ga, 0, none⟩) k VV := fun j hj => hV.row j (by omega)
              go_wp2
              refine bodyPost_ret (v := .tuple #[.slice (some ⟨ga, 0, none⟩) k ca, .float .f64 za]) (by simp [results, Try.results7, go_sem]) rfl ?_
              unfold VaPost
              exact ⟨_, k, ca, VV, za, rfl, by omega, hza, RV, BF⟩
            case true =>
              go_wp2_with fail
              refine (float_any (HR.out.below (by repeat (first | with_reducible exact Below.refl _ _ | with_reducible refine Below.setCell ?_ (by first | omega | (simp; done) | (simp; omega)) _ | with_reducible refine bDrewN ?_ _ | with_reducible refine Below.drew ?_ | with_reducible refine Below.alloc ?_ (by first | omega | (simp; done) | (simp; omega)) _)))).mono ?_
              rintro e w16 ⟨zb, pb, rfl, hzb, R_, b_⟩
              have sz_ : w.heap.size ≤ w15.heap.size := HB.out.size
              have zr_ : r < w15.heap.size := HR.out.1
              have bb : Beside r w15 w16 := (Beside.of (show Below w15.heap.size w15 _ from (by repeat (first | with_reducible exact Below.refl _ _ | with_reducible refine Below.setCell ?_ (by first | omega | (simp; done) | (simp; omega)) _ | with_reducible refine bDrewN ?_ _ | with_reducible refine Below.drew ?_ | with_reducible refine Below.alloc ?_ (by first | omega | (simp; done) | (simp; omega)) _)))).trans b_
              replace HO : Hid (LA (r + 1) w16 ga k ca) := HO.out.beside bb (by omega)
              replace HB : Hid (Below w.heap.size w w16) := HB.out.trans (bb.below (by omega) HB.out.size)
              replace HR : Hid (Rd w16 r s n c pb) := R_
              clear R_ bb b_ sz_ zr_
              obtain ⟨VV, hV⟩ := HO.out
              have BF := HB.out
              have RV : RowF w16 (some ⟨ga, 0, none⟩) k VV := fun j hj => hV.row j (by omega)
              go_wp2
              refine bodyPost_ret (v := .tuple #[.slice (some ⟨ga, 0, none⟩) k ca, .float .f64 zb]) (by simp [results, Try.results7, go_sem]) rfl ?_
              unfold VaPost
              exact ⟨_, k, ca, VV, zb, rfl, by omega, hzb, RV, BF⟩
          case true =>
            go_wp2_with fail
            refine (tenth_any (HR.out.below (by repeat (first | with_reducible exact Below.refl _ _ | with_reducible refine Below.setCell ?_ (by first | omega | (simp; done) | (simp; omega)) _ | with_reducible refine bDrewN ?_ _ | with_reducible refine Below.drew ?_ | with_reducible refine Below.alloc ?_ (by first | omega | (simp; done) | (simp; omega)) _))) 0 12 (by omega) (by omega) (by omega)).mono ?_
            rintro e w17 ⟨za, pz, rfl, hza, R_, b_⟩
            have sz_ : w.heap.size ≤ w13.heap.size := HB.out.size
            have zr_ : r < w13.heap.size := HR.out.1
            have bb : Beside r w13 w17 := (Beside.of (show Below w13.heap.size w13 _ from (by repeat (first | with_reducible exact Below.refl _ _ | with_reducible refine Below.setCell ?_ (by first | omega | (simp; done) | (simp; omega)) _ | with_reducible refine bDrewN ?_ _ | with_reducible refine Below.drew ?_ | with_reducible refine Below.alloc ?_ (by first | omega | (simp; done) | (simp; omega)) _)))).trans b_
            replace HO : Hid (LA (r + 1) w17 ga k ca) := HO.out.beside bb (by omega)
            replace HB : Hid (Below w.heap.size w w17) := HB.out.trans (bb.below (by omega) HB.out.size)
            replace HR : Hid (Rd w17 r s n c pz) := R_
            clear R_ bb b_ sz_ zr_
            go_wp2_with fail
            refine (once_any 12 (by omega) (by omega) (HR.out.below (by repeat (first | with_reducible exact Below.refl _ _ | with_reducible refine Below.setCell ?_ (by first | omega | (simp; done) | (simp; omega)) _ | with_reducible refine bDrewN ?_ _ | with_reducible refine Below.drew ?_ | with_reducible refine Below.alloc ?_ (by first | omega | (simp; done) | (simp; omega)) _)))).mono ?_
            rintro e w18 ⟨f3, p3, rfl, R_, b_⟩
            have sz_ : w.heap.size ≤ w17.heap.size := HB.out.size
            have zr_ : r < w17.heap.size := HR.out.1
            have bb : Beside r w17 w18 := (Beside.of (show Below w17.heap.size w17 _ from (by repeat (first | with_reducible exact Below.refl _ _ | with_reducible refine Below.setCell ?_ (by first | omega | (simp; done) | (simp; omega)) _ | with_reducible refine bDrewN ?_ _ | with_reducible refine Below.drew ?_ | with_reducible refine Below.alloc ?_ (by first | omega | (simp; done) | (simp; omega)) _)))).trans b_
            replace HO : Hid (LA (r + 1) w18 ga k ca) := HO.out.beside bb (by omega)
            replace HB : Hid (Below w.heap.size w w18) := HB.out.trans (bb.below (by omega) HB.out.size)
            replace HR : Hid (Rd w18 r s n c p3) := R_
            clear R_ bb b_ sz_ zr_
            cases f3
            case false =>
              obtain ⟨VV, hV⟩ := HO.out
              have BF := HB.out
              have RV : RowF w18 (some ⟨ga, 0, none⟩) 0 VV := fun j hj => hV.row j (by omega)
              go_wp2
              refine bodyPost_ret (v := .tuple #[.slice (some ⟨ga, 0, none⟩) 0 ca, .float .f64 za]) (by simp [results, Try.results7, go_sem]) rfl ?_
              unfold VaPost
              exact ⟨_, 0, ca, VV, za, rfl, by omega, hza, RV, BF⟩
            case true =>
              go_wp2_with fail
              refine (float_any (HR.out.below (by repeat (first | with_reducible exact Below.refl _ _ | with_reducible refine Below.setCell ?_ (by first | omega | (simp; done) | (simp; omega)) _ | with_reducible refine bDrewN ?_ _ | with_reducible refine Below.drew ?_ | with_reducible refine Below.alloc ?_ (by first | omega | (simp; done) | (simp; omega)) _)))).mono ?_
              rintro e w19 ⟨zb, pb, rfl, hzb, R_, b_⟩
              have sz_ : w.heap.size ≤ w18.heap.size := HB.out.size
              have zr_ : r < w18.heap.size := HR.out.1
              have bb : Beside r w18 w19 := (Beside.of (show Below w18.heap.size w18 _ from (by repeat (first | with_reducible exact Below.refl _ _ | with_reducible refine Below.setCell ?_ (by first | omega | (simp; done) | (simp; omega)) _ | with_reducible refine bDrewN ?_ _ | with_reducible refine Below.drew ?_ | with_reducible refine Below.alloc ?_ (by first | omega | (simp; done) | (simp; omega)) _)))).trans b_
              replace HO : Hid (LA (r + 1) w19 ga k ca) := HO.out.beside bb (by omega)
              replace HB : Hid (Below w.heap.size w w19) := HB.out.trans (bb.below (by omega) HB.out.size)
              replace HR : Hid (Rd w19 r s n c pb) := R_
              clear R_ bb b_ sz_ zr_
              obtain ⟨VV, hV⟩ := HO.out
              have BF := HB.out
              have RV : RowF w19 (some ⟨ga, 0, none⟩) 0 VV := fun j hj => hV.row j (by omega)
              go_wp2
              refine bodyPost_ret (v := .tuple #[.slice (some ⟨ga, 0, none⟩) 0 ca, .float .f64 zb]) (by simp [results, Try.results7, go_sem]) rfl ?_
              unfold VaPost
              exact ⟨_, 0, ca, VV, zb, rfl, by omega, hzb, RV, BF⟩
        case true =>
          go_wp2_with fail
          refine (below_any 2 (HR.out.below (by repeat (first | with_reducible exact Below.refl _ _ | with_reducible refine Below.setCell ?_ (by first | omega | (simp; done) | (simp; omega)) _ | with_reducible refine bDrewN ?_ _ | with_reducible refine Below.drew ?_ | with_reducible refine Below.alloc ?_ (by first | omega | (simp; done) | (simp; omega)) _)))).mono ?_
          rintro e w20 ⟨bb2, pb2, rfl, bb0, -, bb3, R_, b_⟩
          have sz_ : w.heap.size ≤ w12.heap.size := HB.out.size
          have zr_ : r < w12.heap.size := HR.out.1
          have bb : Beside r w12 w20 := (Beside.of (show Below w12.heap.size w12 _ from (by repeat (first | with_reducible exact Below.refl _ _ | with_reducible refine Below.setCell ?_ (by first | omega | (simp; done) | (simp; omega)) _ | with_reducible refine bDrewN ?_ _ | with_reducible refine Below.drew ?_ | with_reducible refine Below.alloc ?_ (by first | omega | (simp; done) | (simp; omega)) _)))).trans b_
          replace HO : Hid (LA (r + 1) w20 ga k ca) := HO.out.beside bb (by omega)
          replace HB : Hid (Below w.heap.size w w20) := HB.out.trans (bb.below (by omega) HB.out.size)
          replace HR : Hid (Rd w20 r s n c pb2) := R_
          clear R_ bb b_ sz_ zr_
          obtain ⟨M, hM⟩ : ∃ M : Nat, 16 + bb2 = (M : Int) := ⟨(16 + bb2).toNat, by omega⟩
          have M1 : 16 ≤ M := by omega
          have M2 : M ≤ 17 := by omega
          go_upto_region 15 with fail
          try rw [hM]
          clear hM bb0 bb3
          go_wp2_with fail
          go_loopw [6] (fun v wx => ∃ k2 g2 c2 : Nat, k2 ≤ M ∧ v = .slice (some ⟨g2, 0, none⟩) k2 c2 ∧ Hid (Rd wx r s n c pb2) ∧ Hid (Below w.heap.size w wx) ∧ Hid (LA (r + 1) wx g2 k2 c2)) (fun v _ => 17 - lenF v)
          case atStart => exact ⟨k, ga, ca, by omega, rfl, HR, HB, HO⟩
          case round =>
            clear HR HB HO
            obtain ⟨k2, g2, c2, hk2, rfl, HR, HB, HO⟩ := hrel
            by_cases hl2 : k2 < M
            case pos =>
              have hl3 : (k2 : Int) < (M : Int) := by omega
              go_wp2_with (first | (at_builtin; refine list_LA (r + 1) g2 k2 c2 (.tmp 64) (.tmp 66) (by rfl) (by rfl) (by rfl) (by rfl) HO.out fx (by omega) ?_; intro g21 cap21 w21 hL hB))
              have zr_ : r < wr.heap.size := HR.out.1
              have zw_ : w.heap.size ≤ wr.heap.size := HB.out.size
              have hB2 : Below (r + 1) wr w21 := (show Below (r + 1) wr wr from (by repeat (first | with_reducible exact Below.refl _ _ | with_reducible refine Below.setCell ?_ (by first | omega | (simp; done) | (simp; omega)) _ | with_reducible refine bDrewN ?_ _ | with_reducible refine Below.drew ?_ | with_reducible refine Below.alloc ?_ (by first | omega | (simp; done) | (simp; omega)) _))).trans hB
              replace HO : Hid (LA (r + 1) w21 g21 (k2 + 1) cap21) := hL
              replace HR : Hid (Rd w21 r s n c pb2) := Rd.below' HR.out hB2
              replace HB : Hid (Below w.heap.size w w21) := HB.out.trans (hB2.mono (by omega))
              clear hL hB hB2 zr_ zw_
              go_roundw
              case rel => exact ⟨k2 + 1, g21, cap21, by omega, rfl, HR, HB, HO⟩
              case measure => simp [lenF]; omega
            case neg =>
              obtain rfl : k2 = M := by omega
              clear hl2 hk2
              rename World => wm
              go_wp2_with fail
              refine (once_any 24 (by omega) (by omega) (HR.out.below (by repeat (first | with_reducible exact Below.refl _ _ | with_reducible refine Below.setCell ?_ (by first | omega | (simp; done) | (simp; omega)) _ | with_reducible refine bDrewN ?_ _ | with_reducible refine Below.drew ?_ | with_reducible refine Below.alloc ?_ (by first | omega | (simp; done) | (simp; omega)) _)))).mono ?_
              rintro e w22 ⟨f2, p2, rfl, R_, b_⟩
              have sz_ : w.heap.size ≤ wm.heap.size := HB.out.size
              have zr_ : r < wm.heap.size := HR.out.1
              have bb : Beside r wm w22 := (Beside.of (show Below wm.heap.size wm _ from (by repeat (first | with_reducible exact Below.refl _ _ | with_reducible refine Below.setCell ?_ (by first | omega | (simp; done) | (simp; omega)) _ | with_reducible refine bDrewN ?_ _ | with_reducible refine Below.drew ?_ | with_reducible refine Below.alloc ?_ (by first | omega | (simp; done) | (simp; omega)) _)))).trans b_
              replace HO : Hid (LA (r + 1) w22 g2 k2 c2) := HO.out.beside bb (by omega)
              replace HB : Hid (Below w.heap.size w w22) := HB.out.trans (bb.below (by omega) HB.out.size)
              replace HR : Hid (Rd w22 r s n c p2) := R_
              clear R_ bb b_ sz_ zr_
              have capl := HO.out.cap
              cases f2
              case false =>
                go_wp2_with fail
                refine (tenth_any (HR.out.below (by repeat (first | with_reducible exact Below.refl _ _ | with_reducible refine Below.setCell ?_ (by first | omega | (simp; done) | (simp; omega)) _ | with_reducible refine bDrewN ?_ _ | with_reducible refine Below.drew ?_ | with_reducible refine Below.alloc ?_ (by first | omega | (simp; done) | (simp; omega)) _))) 0 12 (by omega) (by omega) (by omega)).mono ?_
                rintro e w23 ⟨za, pz, rfl, hza, R_, b_⟩
                have sz_ : w.heap.size ≤ w22.heap.size := HB.out.size
                have zr_ : r < w22.heap.size := HR.out.1
                have bb : Beside r w22 w23 := (Beside.of (show Below w22.heap.size w22 _ from (by repeat (first | with_reducible exact Below.refl _ _ | with_reducible refine Below.setCell ?_ (by first | omega | (simp; done) | (simp; omega)) _ | with_reducible refine bDrewN ?_ _ | with_reducible refine Below.drew ?_ | with_reducible refine Below.alloc ?_ (by first | omega | (simp; done) | (simp; omega)) _)))).trans b_
                replace HO : Hid (LA (r + 1) w23 g2 k2 c2) := HO.out.beside bb (by omega)
                replace HB : Hid (Below w.heap.size w w23) := HB.out.trans (bb.below (by omega) HB.out.size)
                replace HR : Hid (Rd w23 r s n c pz) := R_
                clear R_ bb b_ sz_ zr_
                go_wp2_with fail
                refine (once_any 12 (by omega) (by omega) (HR.out.below (by repeat (first | with_reducible exact Below.refl _ _ | with_reducible refine Below.setCell ?_ (by first | omega | (simp; done) | (simp; omega)) _ | with_reducible refine bDrewN ?_ _ | with_reducible refine Below.drew ?_ | with_reducible refine Below.alloc ?_ (by first | omega | (simp; done) | (simp; omega)) _)))).mono ?_
                rintro e w24 ⟨f3, p3, rfl, R_, b_⟩
                have sz_ : w.heap.size ≤ w23.heap.size := HB.out.size
                have zr_ : r < w23.heap.size := HR.out.1
                have bb : Beside r w23 w24 := (Beside.of (show Below w23.heap.size w23 _ from (by repeat (first | with_reducible exact Below.refl _ _ | with_reducible refine Below.setCell ?_ (by first | omega | (simp; done) | (simp; omega)) _ | with_reducible refine bDrewN ?_ _ | with_reducible refine Below.drew ?_ | with_reducible refine Below.alloc ?_ (by first | omega | (simp; done) | (simp; omega)) _)))).trans b_
                replace HO : Hid (LA (r + 1) w24 g2 k2 c2) := HO.out.beside bb (by omega)
                replace HB : Hid (Below w.heap.size w w24) := HB.out.trans (bb.below (by omega) HB.out.size)
                replace HR : Hid (Rd w24 r s n c p3) := R_
                clear R_ bb b_ sz_ zr_
                cases f3
                case false =>
                  obtain ⟨VV, hV⟩ := HO.out
                  have BF := HB.out
                  have RV : RowF w24 (some ⟨g2, 0, none⟩) k2 VV := fun j hj => hV.row j (by omega)
                  go_wp2
                  refine bodyPost_ret (v := .tuple #[.slice (some ⟨g2, 0, none⟩) k2 c2, .float .f64 za]) (by simp [results, Try.results7, go_sem]) rfl ?_
                  unfold VaPost
                  exact ⟨_, k2, c2, VV, za, rfl, by omega, hza, RV, BF⟩
                case true =>
                  go_wp2_with fail
                  refine (float_any (HR.out.below (by repeat (first | with_reducible exact Below.refl _ _ | with_reducible refine Below.setCell ?_ (by first | omega | (simp; done) | (simp; omega)) _ | with_reducible refine bDrewN ?_ _ | with_reducible refine Below.drew ?_ | with_reducible refine Below.alloc ?_ (by first | omega | (simp; done) | (simp; omega)) _)))).mono ?_
                  rintro e w25 ⟨zb, pb, rfl, hzb, R_, b_⟩
                  have sz_ : w.heap.size ≤ w24.heap.size := HB.out.size
                  have zr_ : r < w24.heap.size := HR.out.1
                  have bb : Beside r w24 w25 := (Beside.of (show Below w24.heap.size w24 _ from (by repeat (first | with_reducible exact Below.refl _ _ | with_reducible refine Below.setCell ?_ (by first | omega | (simp; done) | (simp; omega)) _ | with_reducible refine bDrewN ?_ _ | with_reducible refine Below.drew ?_ | with_reducible refine Below.alloc ?_ (by first | omega | (simp; done) | (simp; omega)) _)))).trans b_
                  replace HO : Hid (LA (r + 1) w25 g2 k2 c2) := HO.out.beside bb (by omega)
                  replace HB : Hid (Below w.heap.size w w25) := HB.out.trans (bb.below (by omega) HB.out.size)
                  replace HR : Hid (Rd w25 r s n c pb) := R_
                  clear R_ bb b_ sz_ zr_
                  obtain ⟨VV, hV⟩ := HO.out
                  have BF := HB.out
                  have RV : RowF w25 (some ⟨g2, 0, none⟩) k2 VV := fun j hj => hV.row j (by omega)
                  go_wp2
                  refine bodyPost_ret (v := .tuple #[.slice (some ⟨g2, 0, none⟩) k2 c2, .float .f64 zb]) (by simp [results, Try.results7, go_sem]) rfl ?_
                  unfold VaPost
                  exact ⟨_, k2, c2, VV, zb, rfl, by omega, hzb, RV, BF⟩
              case true =>
                go_wp2_with fail
                refine (tenth_any (HR.out.below (by repeat (first | with_reducible exact Below.refl _ _ | with_reducible refine Below.setCell ?_ (by first | omega | (simp; done) | (simp; omega)) _ | with_reducible refine bDrewN ?_ _ | with_reducible refine Below.drew ?_ | with_reducible refine Below.alloc ?_ (by first | omega | (simp; done) | (simp; omega)) _))) 0 12 (by omega) (by omega) (by omega)).mono ?_
                rintro e w26 ⟨za, pz, rfl, hza, R_, b_⟩
                have sz_ : w.heap.size ≤ w22.heap.size := HB.out.size
                have zr_ : r < w22.heap.size := HR.out.1
                have bb : Beside r w22 w26 := (Beside.of (show Below w22.heap.size w22 _ from (by repeat (first | with_reducible exact Below.refl _ _ | with_reducible refine Below.setCell ?_ (by first | omega | (simp; done) | (simp; omega)) _ | with_reducible refine bDrewN ?_ _ | with_reducible refine Below.drew ?_ | with_reducible refine Below.alloc ?_ (by first | omega | (simp; done) | (simp; omega)) _)))).trans b_
                replace HO : Hid (LA (r + 1) w26 g2 k2 c2) := HO.out.beside bb (by omega)
                replace HB : Hid (Below w.heap.size w w26) := HB.out.trans (bb.below (by omega) HB.out.size)
                replace HR : Hid (Rd w26 r s n c pz) := R_
                clear R_ bb b_ sz_ zr_
                go_wp2_with fail
                refine (once_any 12 (by omega) (by omega) (HR.out.below (by repeat (first | with_reducible exact Below.refl _ _ | with_reducible refine Below.setCell ?_ (by first | omega | (simp; done) | (simp; omega)) _ | with_reducible refine bDrewN ?_ _ | with_reducible refine Below.drew ?_ | with_reducible refine Below.alloc ?_ (by first | omega | (simp; done) | (simp; omega)) _)))).mono ?_
                rintro e w27 ⟨f3, p3, rfl, R_, b_⟩
                have sz_ : w.heap.size ≤ w26.heap.size := HB.out.size
                have zr_ : r < w26.heap.size := HR.out.1
                have bb : Beside r w26 w27 := (Beside.of (show Below w26.heap.size w26 _ from (by repeat (first | with_reducible exact Below.refl _ _ | with_reducible refine Below.setCell ?_ (by first | omega | (simp; done) | (simp; omega)) _ | with_reducible refine bDrewN ?_ _ | with_reducible refine Below.drew ?_ | with_reducible refine Below.alloc ?_ (by first | omega | (simp; done) | (simp; omega)) _)))).trans b_
                replace HO : Hid (LA (r + 1) w27 g2 k2 c2) := HO.out.beside bb (by omega)
                replace HB : Hid (Below w.heap.size w w27) := HB.out.trans (bb.below (by omega) HB.out.size)
                replace HR : Hid (Rd w27 r s n c p3) := R_
                clear R_ bb b_ sz_ zr_
                cases f3
                case false =>
                  obtain ⟨VV, hV⟩ := HO.out
                  have BF := HB.out
                  have RV : RowF w27 (some ⟨g2, 0, none⟩) 0 VV := fun j hj => hV.row j (by omega)
                  go_wp2
                  refine bodyPost_ret (v := .tuple #[.slice (some ⟨g2, 0, none⟩) 0 c2, .float .f64 za]) (by simp [results, Try.results7, go_sem]) rfl ?_
                  unfold VaPost
                  exact ⟨_, 0, c2, VV, za, rfl, by omega, hza, RV, BF⟩
                case true =>
                  go_wp2_with fail
                  refine (float_any (HR.out.below (by repeat (first | with_reducible exact Below.refl _ _ | with_reducible refine Below.setCell ?_ (by first | omega | (simp; done) | (simp; omega)) _ | with_reducible refine bDrewN ?_ _ | with_reducible refine Below.drew ?_ | with_reducible refine Below.alloc ?_ (by first | omega | (simp; done) | (simp; omega)) _)))).mono ?_
                  rintro e w28 ⟨zb, pb, rfl, hzb, R_, b_⟩
                  have sz_ : w.heap.size ≤ w27.heap.size := HB.out.size
                  have zr_ : r < w27.heap.size := HR.out.1
                  have bb : Beside r w27 w28 := (Beside.of (show Below w27.heap.size w27 _ from (by repeat (first | with_reducible exact Below.refl _ _ | with_reducible refine Below.setCell ?_ (by first | omega | (simp; done) | (simp; omega)) _ | with_reducible refine bDrewN ?_ _ | with_reducible refine Below.drew ?_ | with_reducible refine Below.alloc ?_ (by first | omega | (simp; done) | (simp; omega)) _)))).trans b_
                  replace HO : Hid (LA (r + 1) w28 g2 k2 c2) := HO.out.beside bb (by omega)
                  replace HB : Hid (Below w.heap.size w w28) := HB.out.trans (bb.below (by omega) HB.out.size)
                  replace HR : Hid (Rd w28 r s n c pb) := R_
                  clear R_ bb b_ sz_ zr_
                  obtain ⟨VV, hV⟩ := HO.out
                  have BF := HB.out
                  have RV : RowF w28 (some ⟨g2, 0, none⟩) 0 VV := fun j hj => hV.row j (by omega)
                  go_wp2
                  refine bodyPost_ret (v := .tuple #[.slice (some ⟨g2, 0, none⟩) 0 c2, .float .f64 zb]) (by simp [results, Try.results7, go_sem]) rfl ?_
                  unfold VaPost
                  exact ⟨_, 0, c2, VV, zb, rfl, by omega, hzb, RV, BF⟩
end Go.Proofs.Ytffbpidldnbgaaa
