/-
What is proved: the groups that hold a cut, as both packages tell them.
-/
import Derived.Test.YtpaiajeigdifcaaFy
import Derived.Test.YtpaiajeigdifcaaLLE
import Derived.Test.YtpaiajeigdifcaaOwnL
import Derived.Test.YtpaiajeigdifcaaStd0
namespace Go.Proofs.Ytpaiajeigdifcaa
set_option maxRecDepth 40000
open Go.ChangeShapes Go.WideShapes Go.ChangeAt Go.RowKit
set_option linter.unusedVariables false
set_option linter.unusedSimpArgs false

def comL (f : Nat → Bool) : Nat → List Int
  | 0 => []
  | k + 1 => comL f k ++ (if f k = true then [(k : Int)] else [])
theorem com_len (f : Nat → Bool) (k : Nat) : (comL f k).length ≤ k := by
  induction k with
  | zero => exact Nat.le_refl _
  | succ k ih => unfold comL; split <;> simp <;> omega
theorem com_none {f : Nat → Bool} (h : ∀ i, f i = false) (k : Nat) : comL f k = [] := by
  induction k with
  | zero => rfl
  | succ k ih => unfold comL; rw [ih, h k]; rfl
def commonL (x : Int) (n : Nat) (X : Nat → Int) (K : Nat → Nat) (V : Nat → Nat → Int) (m : Nat) (KK : Nat → Nat) (VV : Nat → Nat → Int) : List Int := if m ≤ 100 then comL (fun i => fyB x n X K V (KK i) (VV i)) m else []
theorem common_len (x : Int) (n : Nat) (X : Nat → Int) (K : Nat → Nat) (V : Nat → Nat → Int) (m : Nat) (KK : Nat → Nat) (VV : Nat → Nat → Int) : (commonL x n X K V m KK VV).length ≤ 100 := by
  unfold commonL
  split
  · have := com_len (fun i => fyB x n X K V (KK i) (VV i)) m; omega
  · simp
def ComPost (w : World) (l : List Int) (e : Ending) (w' : World) : Prop := ∃ s cap, e = .returned (.slice s l.length cap) ∧ OwnI w.heap.size w' s l.length (nthI l) ∧ Below w.heap.size w w'
theorem com_post {w wr : World} {v : Value} {l : List Int} (h : MadeL w.heap.size 0 0 w wr v l) : ComPost w l (.returned v) wr := by
  obtain ⟨s, cap, rfl, ho, -⟩ := madeL_own h
  exact ⟨s, cap, rfl, ho, h.2.1⟩
theorem com_up {w wd wr : World} {v : Value} {l : List Int} (h : MadeL wd.heap.size 0 0 wd wr v l) (hb : Below w.heap.size w wd) : MadeL w.heap.size 0 0 w wr v l := ⟨owns_mono0 h.1 hb.size, hb.trans (h.2.1.mono hb.size), fun r hr => .inr (Nat.zero_le _)⟩
theorem keepC {W W' : World} {p g o : Nat} {v0 v1 v2 : Value} (h0 : W.cell? ⟨p, 0, none⟩ = some v0) (h1 : W.cell? ⟨p, 1, none⟩ = some v1) (h2 : W.cell? ⟨g, o, none⟩ = some v2) (z : p < W.heap.size) (zg : g < W.heap.size) (hb : Below W.heap.size W W') : W'.cell? ⟨p, 0, none⟩ = some v0 ∧ W'.cell? ⟨p, 1, none⟩ = some v1 ∧ W'.cell? ⟨g, o, none⟩ = some v2 := ⟨(hb.cell (p := ⟨p, 0, none⟩) z).trans h0, (hb.cell (p := ⟨p, 1, none⟩) z).trans h1, (hb.cell (p := ⟨g, o, none⟩) zg).trans h2⟩
set_option maxRecDepth 20000 in
set_option maxHeartbeats 8000000 in
theorem specCommon_any (x : Int) (s : Option Addr) (n c : Nat) (X : Nat → Int) (K : Nat → Nat) (V : Nat → Nat → Int) (t : Option Addr) (m d : Nat) (KK : Nat → Nat) (VV : Nat → Nat → Int) (w : World) (hK : Hid (∀ i, i < m → (KK i : Int) ≤ 1048576)) (HR : Hid (RowGat w s n X K V)) (HL : Hid (RowLL w t m KK VV)) :
    Calls Try.prog 11 #[.agg #[.int .i64 x, .slice s n c], .slice t m d] w fun e w' => ComPost w (commonL x n X K V m KK VV) e w' := by
  go_enter Try.func11, Try.ntmps11
  go_upto_region 2 with fail
  obtain ⟨wd, hwd⟩ : ∃ wd, wd = w.alloc (.cells #[.int .i64 x, .slice s n c] 26) := ⟨_, rfl⟩
  rw [← hwd]
  have B0 : Below w.heap.size w wd := by rw [hwd]; exact (by repeat (first | with_reducible exact Below.refl _ _ | with_reducible refine Below.setCell ?_ (by first | omega | (simp; done) | (simp; omega)) _ | with_reducible refine bDrewN ?_ _ | with_reducible refine Below.drew ?_ | with_reducible refine Below.alloc ?_ (by first | omega | (simp; done) | (simp; omega)) _))
  have p0 : wd.cell? ⟨w.heap.size, 0, none⟩ = some (.int .i64 x) := by rw [hwd]; simp [go_sem]
  have p1 : wd.cell? ⟨w.heap.size, 1, none⟩ = some (.slice s n c) := by rw [hwd]; simp [go_sem]
  have HZD : Hid (wd.heap.size = w.heap.size + 1) := by show wd.heap.size = _; rw [hwd]; simp
  have zd : w.heap.size < wd.heap.size := by have := HZD.out; omega
  clear hwd
  have HB : Hid (Below w.heap.size w wd) := B0
  have HP : Hid (wd.cell? ⟨w.heap.size, 0, none⟩ = some (.int .i64 x) ∧ wd.cell? ⟨w.heap.size, 1, none⟩ = some (.slice s n c)) := ⟨p0, p1⟩
  have HM0 : Hid (MadeL wd.heap.size 0 0 wd (wd.alloc (.cells #[] 2)) (.slice (some ⟨w.heap.size + 1, 0, none⟩) 0 0) []) := by
    rw [← HZD.out]
    exact madeL_lit wd (Nat.le_refl _)
  clear p0 p1 B0
  by_cases m1 : 100 < m
  · have b1 : decide ((m : Int) ≤ 100) = false := decide_eq_false (by omega)
    have HO : Hid (commonL x n X K V m KK VV = []) := by show _ = _; unfold commonL; rw [if_neg (by omega)]
    have mz : (0 : Int) < (m : Int) := by omega
    clear m1
    go_wp2_with fail
    go_loopw [5, 6] (fun v i wr => i = .int .i64 0 ∧ Hid (MadeL wd.heap.size 0 0 wd wr v [])) (fun _ _ _ => 0)
    case atStart => exact ⟨rfl, HM0.out⟩
    case round =>
      obtain ⟨rfl, HM⟩ := hrel
      go_wp2
      go_ret
      rw [HO.out]
      exact com_post (com_up HM.out HB.out)
  have b1 : decide ((m : Int) ≤ 100) = true := decide_eq_true (by omega)
  have m2 : (m : Int) ≤ 100 := by omega
  have HO : Hid (commonL x n X K V m KK VV = comL (fun i => fyB x n X K V (KK i) (VV i)) m) := by show _ = _; unfold commonL; rw [if_pos (by omega)]
  clear m1
  go_wp2_with fail
  go_loopw [5, 6] (fun v i wr => ∃ k : Nat, k ≤ m ∧ i = .int .i64 k ∧ Hid (MadeL wd.heap.size 0 0 wd wr v (comL (fun i => fyB x n X K V (KK i) (VV i)) k))) (fun _ i _ => m - (intOf i).toNat)
  case atStart => exact ⟨0, Nat.zero_le _, rfl, HM0.out⟩
  case round =>
    clear HM0
    obtain ⟨k, hk, rfl, HM⟩ := hrel
    have HB2 : Hid (Below wd.heap.size wd wr) := HM.out.2.1
    have zB := HB2.out.size
    have q0 := (HB2.out.cell (p := ⟨w.heap.size, 0, none⟩) zd).trans HP.out.1
    have q1 := (HB2.out.cell (p := ⟨w.heap.size, 1, none⟩) zd).trans HP.out.2
    have zp : w.heap.size < wr.heap.size := by omega
    have HBW : Hid (Below w.heap.size w wr) := HB.out.trans (HB2.out.mono HB.out.size)
    by_cases h1 : k < m
    · obtain ⟨g, o, a, cc, rfl, hg, c0, hr⟩ := HL.out k h1
      have d0 := (HBW.out.cell (p := ⟨g, o + k, none⟩) hg).trans c0
      have zg : g < wr.heap.size := Nat.lt_of_lt_of_le hg HBW.out.size
      have HI : Hid (RowI w a (KK k) (VV k)) := hr
      have kk := hK.out k h1
      have k1 : (k : Int) < (m : Int) := by omega
      have FB : Hid (∀ w', Below w.heap.size w w' → Calls Try.prog 45 #[.agg #[.int .i64 x, .slice s n c], .slice a (KK k) cc] w' fun e w'' => e = .returned (.bool (fyB x n X K V (KK k) (VV k))) ∧ Below w'.heap.size w' w'') := fun w' hb => specFailsBy_any x s n c X K V a (KK k) cc (VV k) w' kk (HR.out.below hb) (HI.out.below hb)
      clear c0 hr hg
      go_upto_region 5 with fail
      refine wp_region_held_drew (S := fun w' => w'.cell? ⟨w.heap.size, 0, none⟩ = some (.int .i64 x) ∧ w'.cell? ⟨w.heap.size, 1, none⟩ = some (.slice s n c) ∧ w'.cell? ⟨g, o + k, none⟩ = some (.slice a (KK k) cc)) (by kernel_rfl) ?_ (fun hHeld => ?_)
      · exact keepC q0 q1 d0 zp zg (by repeat (first | with_reducible exact Below.refl _ _ | with_reducible refine Below.setCell ?_ (by first | omega | (simp; done) | (simp; omega)) _ | with_reducible refine bDrewN ?_ _ | with_reducible refine Below.drew ?_ | with_reducible refine Below.alloc ?_ (by first | omega | (simp; done) | (simp; omega)) _))
      refine wpAnyH_take (i := 0) (v := .agg #[.int .i64 x, .slice s n c]) rfl (by kernel_rfl) (by kernel_rfl) (by kernel_rfl) (fun _ _ _ h => h) (Or.inl ⟨by kernel_rfl, ?_⟩) hHeld ?_
      · intro w' hSw
        obtain ⟨s0, s1, s2⟩ := hSw
        first | (go_simp; done) | (go_simp; with_reducible rfl) | (go_simp; rw [IntKind.wrap_i64]; omega)
      simp only [Act.put, List.setIfInBounds_toArray, List.set_cons_zero, List.set_cons_succ]
      refine wpAnyH_take (i := 1) (v := .slice (some ⟨g, o, none⟩) m d) rfl (by kernel_rfl) (by kernel_rfl) (by kernel_rfl) (fun _ _ _ h => h) (Or.inl ⟨by kernel_rfl, ?_⟩) hHeld ?_
      · intro w' hSw
        obtain ⟨s0, s1, s2⟩ := hSw
        first | (go_simp; done) | (go_simp; with_reducible rfl) | (go_simp; rw [IntKind.wrap_i64]; omega)
      simp only [Act.put, List.setIfInBounds_toArray, List.set_cons_zero, List.set_cons_succ]
      refine wpAnyH_take (i := 2) (v := .int .i64 (k : Int)) rfl (by kernel_rfl) (by kernel_rfl) (by kernel_rfl) (fun _ _ _ h => h) (Or.inl ⟨by kernel_rfl, ?_⟩) hHeld ?_
      · intro w' hSw
        obtain ⟨s0, s1, s2⟩ := hSw
        first | (go_simp; done) | (go_simp; with_reducible rfl) | (go_simp; rw [IntKind.wrap_i64]; omega)
      simp only [Act.put, List.setIfInBounds_toArray, List.set_cons_zero, List.set_cons_succ]
      refine wpAnyH_take (i := 3) (v := .pointer (some ⟨g, o + k, none⟩)) rfl (by kernel_rfl) (by kernel_rfl) (by kernel_rfl) (fun _ _ _ h => h) (Or.inl ⟨by kernel_rfl, ?_⟩) hHeld ?_
      · intro w' hSw
        obtain ⟨s0, s1, s2⟩ := hSw
        first | (go_simp; done) | (go_simp; with_reducible rfl) | (go_simp; rw [IntKind.wrap_i64]; omega)
      simp only [Act.put, List.setIfInBounds_toArray, List.set_cons_zero, List.set_cons_succ]
      refine wpAnyH_take (i := 4) (v := .slice a (KK k) cc) rfl (by kernel_rfl) (by kernel_rfl) (by kernel_rfl) (fun _ _ _ h => h) (Or.inl ⟨by kernel_rfl, ?_⟩) hHeld ?_
      · intro w' hSw
        obtain ⟨s0, s1, s2⟩ := hSw
        first | (go_simp; done) | (go_simp; with_reducible rfl) | (go_simp; rw [IntKind.wrap_i64]; omega)
      simp only [Act.put, List.setIfInBounds_toArray, List.set_cons_zero, List.set_cons_succ]
      refine wpAnyH_ready (rs := [5]) (by kernel_rfl) (by simp) ?_
      refine AllReadyH.cons rfl (fun KK hK => ?_) AllReadyH.nil
      go_simp
      go_wp2_with (first | (go_at_call 45; refine (FB.out _ (HBW.out.trans (Below.mono (by repeat (first | with_reducible exact Below.refl _ _ | with_reducible refine Below.setCell ?_ (by first | omega | (simp; done) | (simp; omega)) _ | with_reducible refine bDrewN ?_ _ | with_reducible refine Below.drew ?_ | with_reducible refine Below.alloc ?_ (by first | omega | (simp; done) | (simp; omega)) _)) HBW.out.size))).mono ?_; rintro e w7 ⟨rfl, h7⟩; have B7 : Below wr.heap.size wr w7 := Below.trans (by repeat (first | with_reducible exact Below.refl _ _ | with_reducible refine Below.setCell ?_ (by first | omega | (simp; done) | (simp; omega)) _ | with_reducible refine bDrewN ?_ _ | with_reducible refine Below.drew ?_ | with_reducible refine Below.alloc ?_ (by first | omega | (simp; done) | (simp; omega)) _)) (h7.mono (by first | omega | (simp; done) | (simp; omega))); clear h7))
      refine hK.out _ _ (keepC q0 q1 d0 zp zg B7) (fun hHeld => ?_)
      clear hK KK
      refine wpAnyH_done (by kernel_rfl) ?_ _
      have HM7 : Hid (MadeL wd.heap.size 0 0 wd w7 u5 (comL (fun i => fyB x n X K V (KK i) (VV i)) k)) := madeL_below0 HM.out B7 zB
      have z7 := B7.size
      clear hHeld
      cases q : fyB x n X K V (KK k) (VV k)
      · have HE : Hid (comL (fun i => fyB x n X K V (KK i) (VV i)) (k + 1) = comL (fun i => fyB x n X K V (KK i) (VV i)) k) := by show comL (fun i => fyB x n X K V (KK i) (VV i)) k ++ (if fyB x n X K V (KK k) (VV k) = true then [(k : Int)] else []) = _; rw [q]; simp
        go_wp2
        go_roundw
        case rel => exact ⟨k + 1, by omega, by go_num, by rw [HE.out]; exact HM7.out⟩
        case measure => first | (simp [intOf]; done) | (simp [intOf]; omega)
      · have HE : Hid (comL (fun i => fyB x n X K V (KK i) (VV i)) (k + 1) = comL (fun i => fyB x n X K V (KK i) (VV i)) k ++ [(k : Int)]) := by show comL (fun i => fyB x n X K V (KK i) (VV i)) k ++ (if fyB x n X K V (KK k) (VV k) = true then [(k : Int)] else []) = _; rw [q]; simp
        have LL := com_len (fun i => fyB x n X K V (KK i) (VV i)) k
        have HO7 := HM7.out.1
        obtain ⟨l, hl⟩ : ∃ l, comL (fun i => fyB x n X K V (KK i) (VV i)) k = l := ⟨_, rfl⟩
        rw [hl] at LL HE
        have HOH : Hid (w7.ownsRow wd.heap.size 2 1 u5 l.length (cellsOf l)) := by rw [← hl]; exact HO7
        have HMH : Hid (MadeL wd.heap.size 0 0 wd w7 u5 l) := by rw [← hl]; exact HM7.out
        clear HO7 hl
        go_wp2_with (at_builtin; refine list_i64h wd.heap.size u5 l.length (cellsOf l) (.tmp 25) (.tmp 27) (by rfl) (by rfl) (by rfl) (by rfl) HOH.out (by omega) (by omega) ?_; intro g' cap' w9 hown9 hgrow9 hlt9 hat9)
        go_roundw
        case rel => exact ⟨k + 1, by omega, by go_num, by rw [HE.out]; exact madeL_on HMH.out (Below.refl _ _) (by omega) (by omega) hown9 hgrow9 hat9⟩
        case measure => first | (simp [intOf]; done) | (simp [intOf]; omega)
    · obtain rfl : k = m := by omega
      go_wp2
      go_ret
      rw [HO.out]
      exact com_post (com_up HM.out HB.out)
set_option maxRecDepth 20000 in
set_option maxHeartbeats 8000000 in
theorem implCommon_any (x : Int) (s : Option Addr) (n c : Nat) (X : Nat → Int) (K : Nat → Nat) (V : Nat → Nat → Int) (t : Option Addr) (m d : Nat) (KK : Nat → Nat) (VV : Nat → Nat → Int) (w : World) (hK : Hid (∀ i, i < m → (KK i : Int) ≤ 1048576)) (HR : Hid (RowGat w s n X K V)) (HL : Hid (RowLL w t m KK VV)) :
    Calls Try.prog 12 #[.agg #[.int .i64 x, .slice s n c], .slice t m d] w fun e w' => ComPost w (commonL x n X K V m KK VV) e w' := by
  go_enter Try.func12, Try.ntmps12
  go_wp2_with fail
  obtain ⟨wd, hwd⟩ : ∃ wd, wd = w.alloc (.cells #[.int .i64 x, .slice s n c] 26) := ⟨_, rfl⟩
  rw [← hwd]
  have B0 : Below w.heap.size w wd := by rw [hwd]; exact (by repeat (first | with_reducible exact Below.refl _ _ | with_reducible refine Below.setCell ?_ (by first | omega | (simp; done) | (simp; omega)) _ | with_reducible refine bDrewN ?_ _ | with_reducible refine Below.drew ?_ | with_reducible refine Below.alloc ?_ (by first | omega | (simp; done) | (simp; omega)) _))
  have p0 : wd.cell? ⟨w.heap.size, 0, none⟩ = some (.int .i64 x) := by rw [hwd]; simp [go_sem]
  have p1 : wd.cell? ⟨w.heap.size, 1, none⟩ = some (.slice s n c) := by rw [hwd]; simp [go_sem]
  have HZD : Hid (wd.heap.size = w.heap.size + 1) := by show wd.heap.size = _; rw [hwd]; simp
  have zd : w.heap.size < wd.heap.size := by have := HZD.out; omega
  clear hwd
  have HB : Hid (Below w.heap.size w wd) := B0
  refine (implTreeOk_any x s n c X K V _ (HR.out.below B0)).mono ?_
  rintro e w1 ⟨rfl, h1⟩
  have HB1 : Hid (Below wd.heap.size wd w1) := h1
  have q0' := (h1.cell (p := ⟨w.heap.size, 0, none⟩) zd).trans p0
  have q1' := (h1.cell (p := ⟨w.heap.size, 1, none⟩) zd).trans p1
  have HP : Hid (wd.cell? ⟨w.heap.size, 0, none⟩ = some (.int .i64 x) ∧ wd.cell? ⟨w.heap.size, 1, none⟩ = some (.slice s n c)) := ⟨p0, p1⟩
  have HM0 : Hid (MadeL wd.heap.size 0 0 wd w1 (.slice none 0 0) []) := madeL_below0 (madeL_nil wd) h1 (Nat.le_refl _)
  clear h1 p0 p1 B0
  cases h0 : treeB x n X K V
  · have HO : Hid (commonL x n X K V m KK VV = []) := by
      show _ = _
      unfold commonL
      rw [com_none (fun i => by unfold fyB; rw [h0]; rfl)]
      split <;> rfl
    go_wp2
    go_ret
    rw [HO.out]
    exact com_post (com_up HM0.out HB.out)
  by_cases m1 : 100 < m
  · have b1 : (100 : Int) < (m : Int) := by omega
    have HO : Hid (commonL x n X K V m KK VV = []) := by show _ = _; unfold commonL; rw [if_neg (by omega)]
    go_wp2
    go_ret
    rw [HO.out]
    exact com_post (com_up HM0.out HB.out)
  have b1 : decide ((100 : Int) < (m : Int)) = false := decide_eq_false (by omega)
  have m2 : (m : Int) ≤ 100 := by omega
  have HO : Hid (commonL x n X K V m KK VV = comL (fun i => fyB x n X K V (KK i) (VV i)) m) := by show _ = _; unfold commonL; rw [if_pos (by omega)]
  have HT : Hid (treeB x n X K V = true) := h0
  obtain ⟨⟨x0, x1⟩, -, -⟩ := tree_yes h0
  clear m1 h0
  go_wp2_with fail
  clear q0' q1'
  go_loopw [5, 18] (fun v i wr => ∃ k : Nat, k ≤ m ∧ i = .int .i64 k ∧ Hid (MadeL wd.heap.size 0 0 wd wr v (comL (fun i => fyB x n X K V (KK i) (VV i)) k))) (fun _ i _ => m - (intOf i).toNat)
  case atStart => exact ⟨0, Nat.zero_le _, rfl, HM0.out⟩
  case round =>
    clear HM0
    obtain ⟨k, hk, rfl, HM⟩ := hrel
    have HB2 : Hid (Below wd.heap.size wd wr) := HM.out.2.1
    have zB := HB2.out.size
    have q0 := (HB2.out.cell (p := ⟨w.heap.size, 0, none⟩) zd).trans HP.out.1
    have q1 := (HB2.out.cell (p := ⟨w.heap.size, 1, none⟩) zd).trans HP.out.2
    have zp : w.heap.size < wr.heap.size := by omega
    have HBW : Hid (Below w.heap.size w wr) := HB.out.trans (HB2.out.mono HB.out.size)
    by_cases h1 : k < m
    · obtain ⟨g, o, a, cc, rfl, hg, c0, hr⟩ := HL.out k h1
      have d0 := (HBW.out.cell (p := ⟨g, o + k, none⟩) hg).trans c0
      have zg : g < wr.heap.size := Nat.lt_of_lt_of_le hg HBW.out.size
      have HI : Hid (RowI w a (KK k) (VV k)) := hr
      have kk := hK.out k h1
      have k1 : (k : Int) < (m : Int) := by omega
      have HX : Hid ((x.toNat : Int) = x) := by show _ = _; omega
      have HFB : Hid (fyB x n X K V (KK k) (VV k) = faB (setN x.toNat (VV k) (KK k)) x.toNat n X K V) := by show _ = _; unfold fyB; rw [HT.out]; rfl
      have BS : Hid (∀ w', Below w.heap.size w w' → Calls Try.prog 48 #[.agg #[.int .i64 x, .slice s n c], .slice a (KK k) cc] w' fun e w'' => e = .returned (.int .u32 (setN x.toNat (VV k) (KK k) : Int)) ∧ Below w'.heap.size w' w'') := fun w' hb => by
        have := basicsAmong_any x.toNat s n c a (KK k) cc (VV k) w' (by rw [HX.out]; exact x1) kk (HI.out.below hb)
        rw [HX.out] at this
        exact this
      have FS : Hid (∀ w', Below w.heap.size w w' → Calls Try.prog 47 #[.agg #[.int .i64 x, .slice s n c], .int .u32 (setN x.toNat (VV k) (KK k) : Int)] w' fun e w'' => e = .returned (.bool (fyB x n X K V (KK k) (VV k))) ∧ Below w'.heap.size w' w'') := fun w' hb => by
        have := fails_any (setN x.toNat (VV k) (KK k)) x.toNat s n c X K V w' (by rw [HX.out]; exact HT) (set_lt _ _ _) (HR.out.below hb)
        rw [HX.out] at this
        rw [HFB.out]
        exact this
      clear c0 hr hg
      go_upto_region 7 with fail
      refine wp_region_held_drew (S := fun w' => w'.cell? ⟨w.heap.size, 0, none⟩ = some (.int .i64 x) ∧ w'.cell? ⟨w.heap.size, 1, none⟩ = some (.slice s n c)) (by kernel_rfl) ?_ (fun hHeld => ?_)
      · exact keepT q0 q1 zp (by repeat (first | with_reducible exact Below.refl _ _ | with_reducible refine Below.setCell ?_ (by first | omega | (simp; done) | (simp; omega)) _ | with_reducible refine bDrewN ?_ _ | with_reducible refine Below.drew ?_ | with_reducible refine Below.alloc ?_ (by first | omega | (simp; done) | (simp; omega)) _))
      refine wpAnyH_take (i := 0) (v := .agg #[.int .i64 x, .slice s n c]) rfl (by kernel_rfl) (by kernel_rfl) (by kernel_rfl) (fun _ _ _ h => h) (Or.inl ⟨by kernel_rfl, ?_⟩) hHeld ?_
      · intro w' hSw
        obtain ⟨s0, s1⟩ := hSw
        first | (go_simp; done) | (go_simp; with_reducible rfl) | (go_simp; rw [IntKind.wrap_i64]; omega)
      simp only [Act.put, List.setIfInBounds_toArray, List.set_cons_zero, List.set_cons_succ]
      refine wpAnyH_take (i := 1) (v := .agg #[.int .i64 x, .slice s n c]) rfl (by kernel_rfl) (by kernel_rfl) (by kernel_rfl) (fun _ _ _ h => h) (Or.inl ⟨by kernel_rfl, ?_⟩) hHeld ?_
      · intro w' hSw
        obtain ⟨s0, s1⟩ := hSw
        first | (go_simp; done) | (go_simp; with_reducible rfl) | (go_simp; rw [IntKind.wrap_i64]; omega)
      simp only [Act.put, List.setIfInBounds_toArray, List.set_cons_zero, List.set_cons_succ]
      refine wpAnyH_take (i := 2) (v := .slice a (KK k) cc) rfl (by kernel_rfl) (by kernel_rfl) (by kernel_rfl) (fun _ _ _ h => h) (Or.inl ⟨by kernel_rfl, ?_⟩) hHeld ?_
      · intro w' hSw
        obtain ⟨s0, s1⟩ := hSw
        first | (go_simp; done) | (go_simp; with_reducible rfl) | (go_simp; rw [IntKind.wrap_i64]; omega)
      simp only [Act.put, List.setIfInBounds_toArray, List.set_cons_zero, List.set_cons_succ]
      refine wpAnyH_ready (rs := [3]) (by kernel_rfl) (by simp) ?_
      refine AllReadyH.cons rfl (fun KK hK => ?_) AllReadyH.nil
      go_simp
      go_wp2_with (first | (go_at_call 48; refine (BS.out _ (HBW.out.trans (Below.mono (by repeat (first | with_reducible exact Below.refl _ _ | with_reducible refine Below.setCell ?_ (by first | omega | (simp; done) | (simp; omega)) _ | with_reducible refine bDrewN ?_ _ | with_reducible refine Below.drew ?_ | with_reducible refine Below.alloc ?_ (by first | omega | (simp; done) | (simp; omega)) _)) HBW.out.size))).mono ?_; rintro e w6 ⟨rfl, h7⟩; have B6 : Below wr.heap.size wr w6 := Below.trans (by repeat (first | with_reducible exact Below.refl _ _ | with_reducible refine Below.setCell ?_ (by first | omega | (simp; done) | (simp; omega)) _ | with_reducible refine bDrewN ?_ _ | with_reducible refine Below.drew ?_ | with_reducible refine Below.alloc ?_ (by first | omega | (simp; done) | (simp; omega)) _)) (h7.mono (by first | omega | (simp; done) | (simp; omega))); have s6 := B6.size; clear h7))
      refine hK.out _ _ (keepT q0 q1 zp B6) (fun hHeld => ?_)
      clear hK KK
      refine wpAnyH_ready (rs := [4]) (by kernel_rfl) (by simp) ?_
      refine AllReadyH.cons rfl (fun KK hK => ?_) AllReadyH.nil
      go_simp
      go_wp2_with (first | (go_at_call 47; refine (FS.out _ (HBW.out.trans (Below.mono B6 HBW.out.size))).mono ?_; rintro e w7 ⟨rfl, h7⟩; have B7 : Below wr.heap.size wr w7 := B6.trans (h7.mono s6); clear h7))
      refine hK.out _ _ (keepT q0 q1 zp B7) (fun hHeld => ?_)
      clear hK KK
      refine wpAnyH_done (by kernel_rfl) ?_ _
      have HM7 : Hid (MadeL wd.heap.size 0 0 wd w7 u5 (comL (fun i => fyB x n X K V (KK i) (VV i)) k)) := madeL_below0 HM.out B7 zB
      have z7 := B7.size
      clear hHeld
      cases q : fyB x n X K V (KK k) (VV k)
      · have HE : Hid (comL (fun i => fyB x n X K V (KK i) (VV i)) (k + 1) = comL (fun i => fyB x n X K V (KK i) (VV i)) k) := by show comL (fun i => fyB x n X K V (KK i) (VV i)) k ++ (if fyB x n X K V (KK k) (VV k) = true then [(k : Int)] else []) = _; rw [q]; simp
        go_wp2
        go_roundw
        case rel => exact ⟨k + 1, by omega, by go_num, by rw [HE.out]; exact HM7.out⟩
        case measure => first | (simp [intOf]; done) | (simp [intOf]; omega)
      · have HE : Hid (comL (fun i => fyB x n X K V (KK i) (VV i)) (k + 1) = comL (fun i => fyB x n X K V (KK i) (VV i)) k ++ [(k : Int)]) := by show comL (fun i => fyB x n X K V (KK i) (VV i)) k ++ (if fyB x n X K V (KK k) (VV k) = true then [(k : Int)] else []) = _; rw [q]; simp
        have LL := com_len (fun i => fyB x n X K V (KK i) (VV i)) k
        have HO7 := HM7.out.1
        obtain ⟨l, hl⟩ : ∃ l, comL (fun i => fyB x n X K V (KK i) (VV i)) k = l := ⟨_, rfl⟩
        rw [hl] at LL HE
        have HOH : Hid (w7.ownsRow wd.heap.size 2 1 u5 l.length (cellsOf l)) := by rw [← hl]; exact HO7
        have HMH : Hid (MadeL wd.heap.size 0 0 wd w7 u5 l) := by rw [← hl]; exact HM7.out
        clear HO7 hl
        go_wp2_with (at_builtin; refine list_i64h wd.heap.size u5 l.length (cellsOf l) (.tmp 28) (.tmp 30) (by rfl) (by rfl) (by rfl) (by rfl) HOH.out (by omega) (by omega) ?_; intro g' cap' w9 hown9 hgrow9 hlt9 hat9)
        go_roundw
        case rel => exact ⟨k + 1, by omega, by go_num, by rw [HE.out]; exact madeL_on HMH.out (Below.refl _ _) (by omega) (by omega) hown9 hgrow9 hat9⟩
        case measure => first | (simp [intOf]; done) | (simp [intOf]; omega)
    · obtain rfl : k = m := by omega
      go_wp2
      go_ret
      rw [HO.out]
      exact com_post (com_up HM.out HB.out)
end Go.Proofs.Ytpaiajeigdifcaa
