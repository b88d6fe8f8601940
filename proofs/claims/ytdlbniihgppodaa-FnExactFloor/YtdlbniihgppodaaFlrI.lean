/-
What is proved: the floor of costs, as the program says it.
-/
import Derived.Test.YtdlbniihgppodaaFlrN
import Derived.Test.YtdlbniihgppodaaPlA
import Derived.Test.YtdlbniihgppodaaCqI
import Derived.Test.YtdlbniihgppodaaRpB
import Derived.Test.YtdlbniihgppodaaRpL
import Derived.Deep.RegionHeld3
import Derived.BigQuiet
namespace Go.Proofs.Ytdlbniihgppodaa
set_option maxRecDepth 40000
open Go.ChangeShapes Go.WideShapes Go.ChangeAt Go.RowKit
set_option linter.unusedVariables false
set_option linter.unusedSimpArgs false

def mixV (V : Nat → Int × Int × Int × Int × Int) (k i : Nat) : Int × Int × Int × Int × Int := if i < k then eaV V i else V i
theorem mix_on (V : Nat → Int × Int × Int × Int × Int) (k j : Nat) : fltF (mixV V (k + 1)) j = if j = k * 5 + 3 then 0 else if j = k * 5 then 0 else fltF (mixV V k) j := by
  have key : ∀ q, q ≠ k → mixV V (k + 1) q = mixV V k q := fun q hq => by
    unfold mixV
    by_cases h : q < k
    · rw [if_pos h, if_pos (by omega)]
    · rw [if_neg h, if_neg (by omega)]
  have e1 : mixV V (k + 1) k = eaV V k := by unfold mixV; rw [if_pos (by omega)]
  have e2 : mixV V k k = V k := by unfold mixV; rw [if_neg (by omega)]
  obtain ⟨a0, a1, a2, a3, a4⟩ := flt_at (mixV V (k + 1)) (j / 5)
  obtain ⟨b0, b1, b2, b3, b4⟩ := flt_at (mixV V k) (j / 5)
  by_cases h : j / 5 = k
  · rw [h] at a0 a1 a2 a3 a4 b0 b1 b2 b3 b4
    rw [e1] at a0 a1 a2 a3 a4
    rw [e2] at b0 b1 b2 b3 b4
    rcases (by omega : j = k * 5 ∨ j = k * 5 + 1 ∨ j = k * 5 + 2 ∨ j = k * 5 + 3 ∨ j = k * 5 + 4) with q | q | q | q | q <;> subst q
    · rw [a0, if_neg (by omega), if_pos rfl]; rfl
    · rw [a1, if_neg (by omega), if_neg (by omega), b1]; rfl
    · rw [a2, if_neg (by omega), if_neg (by omega), b2]; rfl
    · rw [a3, if_pos rfl]; rfl
    · rw [a4, if_neg (by omega), if_neg (by omega), b4]; rfl
  · rw [if_neg (by omega), if_neg (by omega)]
    unfold fltF
    rw [key _ h]
theorem own_put {base g m : Nat} {w : World} {V : Nat → Int} (h : OwnI base w (some ⟨g, 0, none⟩) m V) (i : Nat) (x : Int) : OwnI base (w.setCell ⟨g, i, none⟩ (.int .i64 x)) (some ⟨g, 0, none⟩) m (fun j => if j = i then x else V j) := fun j hj => by
  obtain ⟨b, e, hB, hl, hc, hf⟩ := h j hj
  cases e
  refine ⟨g, rfl, hB, by simpa using hl, ?_, by simp [go_sem, hf]⟩
  by_cases q : j = i
  · subst q; simp [go_sem, hc]
  · simp [go_sem, hc, q]
theorem own_mix {base g n k : Nat} {w : World} {V : Nat → Int × Int × Int × Int × Int} (h : OwnI base w (some ⟨g, 0, none⟩) (n * 5) (fltF (mixV V k))) : OwnI base ((w.setCell ⟨g, k * 5, none⟩ (.int .i64 0)).setCell ⟨g, k * 5 + 3, none⟩ (.int .i64 0)) (some ⟨g, 0, none⟩) (n * 5) (fltF (mixV V (k + 1))) := fun j hj => by
  have := own_put (own_put h (k * 5) 0) (k * 5 + 3) 0 j hj
  rw [mix_on]
  exact this
theorem mix_all {w : World} {t : Option Addr} {n : Nat} {V : Nat → Int × Int × Int × Int × Int} (h : RowPlant w t n (mixV V n)) : RowPlant w t n (eaV V) := fun j hj => by
  have := h j hj
  have e : mixV V n j = eaV V j := by unfold mixV; rw [if_pos hj]
  rw [e] at this
  exact this
theorem mix_none {V : Nat → Int × Int × Int × Int × Int} : mixV V 0 = V := by
  funext i
  unfold mixV
  rw [if_neg (by omega)]
theorem rep_rowB {w : World} {b n : Nat} (hb : b < w.heap.size) (h : RepAtB w b n n true) : RowB w (some ⟨b, 0, none⟩) n onA := fun j hj => ⟨b, 0, rfl, hb, by rw [Nat.zero_add]; exact h.cell hj⟩
theorem rep_rowL {w : World} {b g n m : Nat} (hb : b < w.heap.size) (h : RepAtL w b m m (some ⟨g, 0, none⟩, n, n)) (hr : RowB w (some ⟨g, 0, none⟩) n onA) : RowLB w (some ⟨b, 0, none⟩) m (fun _ => n) (fun _ => onA) := fun j hj => ⟨b, 0, some ⟨g, 0, none⟩, n, rfl, hb, by rw [Nat.zero_add]; exact h.cell hj, hr⟩
theorem rep_lt {w : World} {b n k : Nat} {x : Bool} (h : RepAtB w b n k x) : b < w.heap.size := (Array.getElem?_eq_some_iff.1 h).1
theorem rep_ltL {w : World} {b n k : Nat} {x : Option Addr × Nat × Nat} (h : RepAtL w b n k x) : b < w.heap.size := (Array.getElem?_eq_some_iff.1 h).1
set_option maxRecDepth 20000 in
set_option maxHeartbeats 4000000 in
theorem implFloor_any (s : Option Addr) (n c : Nat) (V : Nat → Int × Int × Int × Int × Int) (u : Option Addr) (m d : Nat) (W : Nat → Int) (w : World) (hn : (n : Int) ≤ 1048576) (hm : (m : Int) ≤ 1048576) (HR : Hid (RowPlant w s n V)) (HW : Hid (RowI w u m W)) :
    Calls Try.prog 27 #[.slice s n c, .slice u m d] w fun e w' => e = .returned (.int .i64 (floorV n V m W)) ∧ Below w.heap.size w w' := by
  go_enter Try.func27, Try.ntmps27
  go_wp2_with fail
  refine (plantsOk_any s n c V _ hn HR).mono ?_
  rintro e w1 ⟨rfl, B1⟩
  cases h0 : plsB n V
  · have HF : Hid (floorV n V m W = -1) := floor_off (by rw [h0]; rfl)
    go_wp2
    go_ret
    exact ⟨ret_int HF.out.symm, (by repeat (first | with_reducible exact Below.refl _ _ | with_reducible exact B1 | with_reducible refine Below.setCell ?_ (by first | omega | (simp; done) | (simp; omega)) _ | with_reducible refine bDrewN ?_ _ | with_reducible refine Below.drew ?_ | with_reducible refine Below.alloc ?_ (by first | omega | (simp; done) | (simp; omega)) _))⟩
  have HW1 : Hid (RowI w1 u m W) := HW.out.below B1
  go_wp2_with fail
  refine (loadsOk_any u m d W _ hm HW1).mono ?_
  rintro e w1 ⟨rfl, rfl⟩
  cases h1 : ldB m W
  · have HF : Hid (floorV n V m W = -1) := floor_off (by rw [h0, h1]; rfl)
    go_wp2
    go_ret
    exact ⟨ret_int HF.out.symm, (by repeat (first | with_reducible exact Below.refl _ _ | with_reducible exact B1 | with_reducible refine Below.setCell ?_ (by first | omega | (simp; done) | (simp; omega)) _ | with_reducible refine bDrewN ?_ _ | with_reducible refine Below.drew ?_ | with_reducible refine Below.alloc ?_ (by first | omega | (simp; done) | (simp; omega)) _))⟩
  obtain ⟨n1, n3, hpl⟩ := pls_yes h0
  obtain ⟨m1, m5, hw⟩ := ld_yes h1
  have HFI : Hid (costV n (eaV V) m W m (fun _ => n) (fun _ => onA) = floorV n V m W) := floor_is h0 h1
  have HR1 : Hid (RowPlant w1 s n V) := HR.out.below B1
  have HB1 : Hid (Below w.heap.size w w1) := B1
  obtain ⟨ag, ao, rfl, hag, -⟩ := HR1.out 0 (by omega)
  clear h0 h1 hpl hw B1 hag
  go_wp2_with fail
  refine (cloneP_any _ n c V _ (by omega) HR1).mono ?_
  rintro e w2 ⟨s2, c2, rfl, OW, B2⟩
  obtain ⟨b, rfl, hb, -, -, -⟩ := OW 0 (by omega)
  have HO : Hid (OwnI w1.heap.size w2 (some ⟨b, 0, none⟩) (n * 5) (fltF (mixV V 0))) := by show OwnI _ _ _ _ _; rw [mix_none]; exact OW
  have HX2 : Hid (Below w1.heap.size w1 w2) := B2
  clear OW B2
  go_wp2_with fail
  go_loopw [20] (fun i wx => ∃ k : Nat, k ≤ n ∧ i = .int .i64 k ∧ Hid (OwnI w1.heap.size wx (some ⟨b, 0, none⟩) (n * 5) (fltF (mixV V k))) ∧ Hid (Below w1.heap.size w1 wx)) (fun i _ => n - (intOf i).toNat)
  case atStart => exact ⟨0, Nat.zero_le _, rfl, HO, HX2⟩
  case round =>
    clear HO HX2
    obtain ⟨k, hk, rfl, HO, HX⟩ := hrel
    by_cases h2 : k < n
    case pos =>
      have k1 : (k : Int) < (n : Int) := by omega
      obtain ⟨_, e0, -, zb, c0, f0⟩ := HO.out (k * 5) (by omega)
      cases e0
      obtain ⟨_, e0, -, -, c3, f3⟩ := HO.out (k * 5 + 3) (by omega)
      cases e0
      have f0' := f0
      go_upto_region 8 with fail
      have HON := own_mix HO.out
      have HXN : Below w1.heap.size w1 ((wr.setCell ⟨b, k * 5, none⟩ (.int .i64 0)).setCell ⟨b, k * 5 + 3, none⟩ (.int .i64 0)) := (HX.out.setCell (by simp only; omega) _).setCell (by simp only; omega) _
      go_wp2
      go_roundw
      case rel => exact ⟨k + 1, by omega, by go_num, HON, HXN⟩
      case measure => first | (simp [intOf]; done) | (simp [intOf]; omega)
    case neg =>
      obtain rfl : k = n := by omega
      have HP : Hid (RowPlant wr (some ⟨b, 0, none⟩) k (eaV V)) := mix_all (flt_row HO.out.row)
      have HBX : Hid (Below w.heap.size w wr) := HB1.out.trans (HX.out.mono HB1.out.size)
      have HW2 : Hid (RowI wr u m W) := HW1.out.below HX.out
      clear HO HX
      go_wp2_with fail
      obtain ⟨wa, hwa⟩ : ∃ z, z = wr.alloc (.cells #[.bool true] 4) := ⟨_, rfl⟩
      rw [← hwa]
      have Ba : Below wr.heap.size wr wa := by rw [hwa]; exact (by repeat (first | with_reducible exact Below.refl _ _ | with_reducible refine Below.setCell ?_ (by first | omega | (simp; done) | (simp; omega)) _ | with_reducible refine bDrewN ?_ _ | with_reducible refine Below.drew ?_ | with_reducible refine Below.alloc ?_ (by first | omega | (simp; done) | (simp; omega)) _))
      have za : wr.heap.size < wa.heap.size := by rw [hwa]; simp
      have ca : wa.cell? ⟨wr.heap.size, 0, none⟩ = some (.bool true) := by rw [hwa]; simp [go_sem]
      clear hwa
      refine (repeat_anyB wr.heap.size k true wa (by omega) za ca).mono ?_
      rintro e w4 ⟨rfl, R4, B4⟩
      have Ba4 : Below wr.heap.size wr w4 := Ba.trans (B4.mono Ba.size)
      have HR4 : Hid (RowB w4 (some ⟨wa.heap.size, 0, none⟩) k onA) := rep_rowB (rep_lt R4) R4
      obtain ⟨G, hG⟩ : ∃ z, z = wa.heap.size := ⟨_, rfl⟩
      rw [← hG] at HR4 ⊢
      have HX4 : Hid (Below wr.heap.size wr w4) := Ba4
      clear hG Ba B4 za ca Ba4 R4
      go_wp2_with fail
      obtain ⟨wc, hwc⟩ : ∃ z, z = w4.alloc (.cells #[.slice (some ⟨G, 0, none⟩) k k] 23) := ⟨_, rfl⟩
      rw [← hwc]
      have Bc : Below w4.heap.size w4 wc := by rw [hwc]; exact (by repeat (first | with_reducible exact Below.refl _ _ | with_reducible refine Below.setCell ?_ (by first | omega | (simp; done) | (simp; omega)) _ | with_reducible refine bDrewN ?_ _ | with_reducible refine Below.drew ?_ | with_reducible refine Below.alloc ?_ (by first | omega | (simp; done) | (simp; omega)) _))
      have zc : w4.heap.size < wc.heap.size := by rw [hwc]; simp
      have cc : wc.cell? ⟨w4.heap.size, 0, none⟩ = some (.slice (some ⟨G, 0, none⟩) k k) := by rw [hwc]; simp [go_sem]
      clear hwc
      refine (repeat_anyL w4.heap.size m (some ⟨G, 0, none⟩, k, k) wc (by omega) zc cc).mono ?_
      rintro e w5 ⟨rfl, R5, B5⟩
      have B45 : Below w4.heap.size w4 w5 := Bc.trans (B5.mono Bc.size)
      have BR5 : Below wr.heap.size wr w5 := HX4.out.trans (B45.mono HX4.out.size)
      have HL5 : Hid (RowLB w5 (some ⟨wc.heap.size, 0, none⟩) m (fun _ => k) (fun _ => onA)) := rep_rowL (rep_ltL R5) R5 (HR4.out.below B45)
      have HP5 : Hid (RowPlant w5 (some ⟨b, 0, none⟩) k (eaV V)) := HP.out.below BR5
      have HW5 : Hid (RowI w5 u m W) := HW2.out.below BR5
      have HB5 : Hid (Below w.heap.size w w5) := HBX.out.trans (BR5.mono HBX.out.size)
      clear R5 B5 Bc B45 BR5 zc cc
      go_wp2_with fail
      refine (implCostOf_any _ k c2 (eaV V) u m d W _ m m (fun _ => k) (fun _ => onA) w5 hn hm hm (fun _ _ => hn) HP5 HW5 HL5).mono ?_
      rintro e w6 ⟨rfl, B6⟩
      have HB6 : Hid (Below w.heap.size w w6) := HB5.out.trans (B6.mono HB5.out.size)
      clear B6
      go_wp2
      go_ret
      exact ⟨ret_int HFI.out, HB6.out⟩
end Go.Proofs.Ytdlbniihgppodaa
