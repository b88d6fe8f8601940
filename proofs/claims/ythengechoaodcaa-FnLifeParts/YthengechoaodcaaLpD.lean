/-
What is proved: swings and a curve that are drawn: any int64s, at most 61 swings, four knots.
-/
import Derived.Test.YthengechoaodcaaSwD
import Derived.Test.YthengechoaodcaaRnS
import Derived.Deep.RegionHeldLaw
namespace Go.Proofs.Ythengechoaodcaa
set_option maxRecDepth 40000
open Go.ChangeShapes Go.WideShapes Go.ChangeAt Go.RowKit
set_option linter.unusedVariables false
set_option linter.unusedSimpArgs false

/-- A block of m int64s, any of them. -/
def IB (b m : Nat) (W : World) : Prop := b < W.heap.size ∧ (∀ o, W.frozen? ⟨b, o, none⟩ = false) ∧ ∀ i, i < m → ∃ y, W.cell? ⟨b, i, none⟩ = some (.int .i64 y)
theorem IB.below {b m : Nat} {W W' : World} (h : IB b m W) (hb : Below W.heap.size W W') : IB b m W' :=
  ⟨Nat.lt_of_lt_of_le h.1 hb.size, fun o => (hb.frozen (p := ⟨b, o, none⟩) h.1).trans (h.2.1 o), fun i hi => by obtain ⟨y, hy⟩ := h.2.2 i hi; exact ⟨y, (hb.cell (p := ⟨b, i, none⟩) h.1).trans hy⟩⟩
theorem IB.beside {b m r : Nat} {W W' : World} (h : IB b m W) (hb : Beside r W W') (hr : b ≠ r) : IB b m W' :=
  ⟨Nat.lt_of_lt_of_le h.1 hb.2.2.2.1, fun o => (hb.frozen (p := ⟨b, o, none⟩) h.1 hr).trans (h.2.1 o), fun i hi => by obtain ⟨y, hy⟩ := h.2.2 i hi; exact ⟨y, (hb.cell (p := ⟨b, i, none⟩) h.1 hr).trans hy⟩⟩
theorem IB.set {b m : Nat} {W : World} (h : IB b m W) (i : Nat) (x : Int) : IB b m (W.setCell ⟨b, i, none⟩ (.int .i64 x)) := by
  refine ⟨by simpa using h.1, fun o => by simp [go_sem, h.2.1], fun j hj => ?_⟩
  obtain ⟨y, hy⟩ := h.2.2 j hj
  by_cases q : j = i
  · subst q; exact ⟨x, by simp [go_sem, hy]⟩
  · exact ⟨y, by simp [go_sem, hy, q]⟩
theorem IB.row {b m : Nat} {W : World} (h : IB b m W) : ∃ V, RowI W (some ⟨b, 0, none⟩) m V := by
  have : ∀ i, ∃ y, i < m → W.cell? ⟨b, i, none⟩ = some (.int .i64 y) := fun i => by
    by_cases hi : i < m
    · obtain ⟨y, hy⟩ := h.2.2 i hi; exact ⟨y, fun _ => hy⟩
    · exact ⟨0, fun q => (hi q).elim⟩
  refine ⟨fun i => Classical.choose (this i), fun j hj => ⟨b, 0, rfl, h.1, ?_⟩⟩
  rw [Nat.zero_add]
  exact Classical.choose_spec (this j) hj
/-- A list of m swings, any of them, in a block from base on. -/
def SwA (base : Nat) (W : World) (s : Option Addr) (m : Nat) : Prop := 0 < m → ∃ g, s = some ⟨g, 0, none⟩ ∧ base ≤ g ∧ IB g (m * 2) W
theorem SwA.below {base m : Nat} {W W' : World} {s : Option Addr} (h : SwA base W s m) (hb : Below W.heap.size W W') : SwA base W' s m := fun hm => by
  obtain ⟨g, e, h1, h2⟩ := h hm
  exact ⟨g, e, h1, h2.below hb⟩
theorem SwA.beside {base m r : Nat} {W W' : World} {s : Option Addr} (h : SwA base W s m) (hb : Beside r W W') (hr : r < base) : SwA base W' s m := fun hm => by
  obtain ⟨g, e, h1, h2⟩ := h hm
  exact ⟨g, e, h1, h2.beside hb (by omega)⟩
theorem SwA.apart {base m r : Nat} {W W' : World} {s : Option Addr} (h : SwA base W s m) (hb : Beside r W W') (hr : ∀ g, s = some ⟨g, 0, none⟩ → 0 < m → g ≠ r) : SwA base W' s m := fun hm => by
  obtain ⟨g, e, h1, h2⟩ := h hm
  exact ⟨g, e, h1, h2.beside hb (hr g e hm)⟩
theorem SwA.of {base m : Nat} {W : World} {s : Option Addr} {V : Nat → Int × Int} (h : OwnSwing base W s m V) : SwA base W s m := fun hm => by
  obtain ⟨g, e, h1, h2, h3, _⟩ := h 0 hm
  refine ⟨g, e, h1, h2, h3, fun i hi => ?_⟩
  obtain ⟨g', e', _, _, _, c0, c1⟩ := h (i / 2) (by omega)
  rw [e] at e'
  cases e'
  rcases Nat.mod_two_eq_zero_or_one i with z | z
  · exact ⟨_, by rw [show i = i / 2 * 2 by omega]; exact c0⟩
  · exact ⟨_, by rw [show i = i / 2 * 2 + 1 by omega]; exact c1⟩
theorem SwA.row {base m : Nat} {W : World} {s : Option Addr} (h : SwA base W s m) : ∃ V, RowI W s (m * 2) V := by
  rcases Nat.eq_zero_or_pos m with z | z
  · exact ⟨fun _ => 0, fun j hj => by omega⟩
  · obtain ⟨g, e, _, h2⟩ := h z
    rw [e]
    exact h2.row
theorem Lst.capB {base : Nat} {T : TypeId} {M : Nat} {W : World} {t : Option Addr} {k cap : Nat} {U : Nat → Int} (h : Lst base T M W (.slice t k cap) k U) : k ≤ cap := h.cap
theorem IB.new8 (W : World) (t : TypeId) (b0 b1 b2 b3 b4 b5 b6 b7 : Int) : IB W.heap.size 8 (W.alloc (.cells #[.int .i64 b0, .int .i64 b1, .int .i64 b2, .int .i64 b3, .int .i64 b4, .int .i64 b5, .int .i64 b6, .int .i64 b7] t)) := by
  refine ⟨by simp, fun o => by simp [go_sem], fun i hi => ?_⟩
  rcases (show i = 0 ∨ i = 1 ∨ i = 2 ∨ i = 3 ∨ i = 4 ∨ i = 5 ∨ i = 6 ∨ i = 7 by omega) with rfl | rfl | rfl | rfl | rfl | rfl | rfl | rfl <;> exact ⟨_, by simp [go_sem]; rfl⟩
theorem IB.new5 (W : World) (t : TypeId) (b0 b1 b2 b3 b4 : Int) : IB W.heap.size 5 (W.alloc (.cells #[.int .i64 b0, .int .i64 b1, .int .i64 b2, .int .i64 b3, .int .i64 b4] t)) := by
  refine ⟨by simp, fun o => by simp [go_sem], fun i hi => ?_⟩
  rcases (show i = 0 ∨ i = 1 ∨ i = 2 ∨ i = 3 ∨ i = 4 by omega) with rfl | rfl | rfl | rfl | rfl <;> exact ⟨_, by simp [go_sem]; rfl⟩
def LifPost (w : World) (e : Ending) (w' : World) : Prop := ∃ (t : Option Addr) (m cap : Nat) (V : Nat → Int) (t2 : Option Addr) (V2 : Nat → Int), e = .returned (.tuple #[.slice t m cap, .slice t2 4 4]) ∧ m ≤ 61 ∧ RowI w' t (m * 2) V ∧ RowI w' t2 (4 * 2) V2 ∧ Below w.heap.size w w'
set_option maxRecDepth 20000 in
set_option maxHeartbeats 16000000 in
theorem drawLife_any {s : Option Addr} {n c : Nat} {w : World} (h : Hid (Code8 w s n)) :
    Calls Try.prog 23 #[.slice s n c] w fun e w' => LifPost w e w' := by
  go_enter Try.func23, Try.ntmps23
  go_wp2_with fail
  refine (open_any (h.out.below (by repeat (first | with_reducible exact Below.refl _ _ | with_reducible refine Below.setCell ?_ (by first | omega | (simp; done) | (simp; omega)) _ | with_reducible refine bDrewN ?_ _ | with_reducible refine Below.drew ?_ | with_reducible refine Below.alloc ?_ (by first | omega | (simp; done) | (simp; omega)) _)))).mono ?_
  rintro e w1 ⟨rfl, R_, b_⟩
  obtain ⟨r, hr⟩ : ∃ r, r = w.heap.size := ⟨_, rfl⟩
  have HR : Hid (Rd w1 r s n c 0) := by show Rd _ _ _ _ _ _; rw [hr]; simpa using R_
  have HB : Hid (Below w.heap.size w w1) := b_
  have zr : w.heap.size ≤ r := by omega
  try rw [← hr]
  clear R_ b_ h hr
  go_wp2_with fail
  refine (course_any HR).mono ?_
  rintro e w2 hC
  unfold CrsPost at hC
  obtain ⟨v, m, U, p2, rfl, hm, hL, hR, bS⟩ := hC
  obtain ⟨t, cap, rfl, hrow⟩ := Lst.val hL
  have mcap : m ≤ cap := Lst.capB hL
  have z1 : r < w1.heap.size := HR.out.1
  replace HR : Hid (Rd w2 r s n c p2) := hR
  replace HB : Hid (Below w.heap.size w w2) := HB.out.trans (bS.below (by omega) HB.out.size)
  have HV : Hid (RowI w2 t m U) := hrow
  clear hL hR bS z1 hrow
  have HRC : Hid (∀ W k, k ≤ 61 → RowI W t k U → Calls Try.prog 9 #[.slice t k cap] W fun e w' => RainP W (rainL (turnL k U)) e w') := fun W k hk h => specRain_any t k cap U W (by omega) h
  have HRL : Hid (∀ k, k ≤ 61 → (rainL (turnL k U)).length ≤ 61) := fun k hk => by have := rainL_le (turnL k U); have := turnL_le k U; omega
  obtain ⟨K, hK, hK2⟩ : ∃ K, K ≤ m ∧ ((m ≤ 24 ∧ K = m) ∨ (24 < m ∧ K = 24)) := by
    by_cases z : m ≤ 24
    · exact ⟨m, Nat.le_refl _, .inl ⟨z, rfl⟩⟩
    · exact ⟨24, by omega, .inr ⟨by omega, rfl⟩⟩
  go_upto_if 17 with fail
  go_cut [5] (fun v5 wx => v5 = .slice t K cap ∧ wx = w2)
  case first =>
    rcases hK2 with ⟨q1, q2⟩ | ⟨q1, q2⟩
    · subst q2
      have q3 : ¬ (24 : Int) < (K : Int) := by omega
      go_wp2_with fail
      go_meet
      exact ⟨rfl, rfl⟩
    · subst q2
      have q3 : (24 : Int) < (m : Int) := by omega
      have q4 : (24 : Int) ≤ (cap : Int) := by omega
      go_wp2_with fail
      go_meet
      exact ⟨rfl, rfl⟩
  case rest =>
    obtain ⟨rfl, rfl⟩ := hcut
    rename World => w2
    go_wp2_with fail
    refine (HRC.out _ K (by omega) (fun j hj => HV.out j (by omega))).mono ?_
    rintro e w3 hR
    unfold RainP at hR
    obtain ⟨so, co, rfl, hO, bb⟩ := hR
    have z2 : r < w2.heap.size := HR.out.1
    have HS : Hid (SwA (r + 1) w3 so (rainL (turnL K U)).length) := SwA.of (hO.mono (by omega))
    have hQ : (rainL (turnL K U)).length ≤ 61 := HRL.out K (by omega)
    replace HR : Hid (Rd w3 r s n c p2) := HR.out.below bb
    replace HB : Hid (Below w.heap.size w w3) := HB.out.trans (bb.mono HB.out.size)
    obtain ⟨M, hM⟩ : ∃ M, (rainL (turnL K U)).length = M := ⟨_, rfl⟩
    rw [hM] at HS hQ ⊢
    clear hO bb HV HRC HRL z2 hM hK2 hK hm mcap
    go_upto_region 8 with fail
    obtain ⟨w4, hw4⟩ : ∃ z, z = w3.alloc (.cells #[.int .i64 0, .int .i64 1000, .int .i64 40, .int .i64 1000, .int .i64 1200, .int .i64 1000, .int .i64 200000, .int .i64 1000] 71) := ⟨_, rfl⟩
    obtain ⟨w5, hw5⟩ : ∃ z, z = w4.alloc (.cells #[.int .i64 1, .int .i64 1, .int .i64 2, .int .i64 4, .int .i64 5] 2) := ⟨_, rfl⟩
    rw [← hw4, ← hw5]
    have e4 : w4.heap.size = w3.heap.size + 1 := by rw [hw4]; simp
    have z3 : r < w3.heap.size := HR.out.1
    have hsg : ∀ g, so = some ⟨g, 0, none⟩ → 0 < M → g < w3.heap.size := fun g e hm => by
      obtain ⟨g', e', _, h2⟩ := HS.out hm
      rw [e] at e'; cases e'; exact h2.1
    have HSG : Hid (∀ g, so = some ⟨g, 0, none⟩ → 0 < M → g < w3.heap.size) := hsg
    have b4 : Below w3.heap.size w3 w4 := by rw [hw4]; exact below0 _ _
    have b5 : Below w4.heap.size w4 w5 := by rw [hw5]; exact below0 _ _
    have b45 : Below w3.heap.size w3 w5 := b4.trans (b5.mono b4.size)
    have HC : Hid (IB w3.heap.size 8 w5) := IB.below (by rw [hw4]; exact IB.new8 w3 71 0 1000 40 1000 1200 1000 200000 1000) b5
    have HY : Hid (IB (w3.heap.size + 1) 5 w5) := by show IB _ _ _; rw [← e4, hw5]; exact IB.new5 w4 2 1 1 2 4 5
    replace HS : Hid (SwA (r + 1) w5 so M) := HS.out.below b45
    replace HR : Hid (Rd w5 r s n c p2) := HR.out.below b45
    replace HB : Hid (Below w.heap.size w w5) := HB.out.trans (b45.mono HB.out.size)
    obtain ⟨gc, hgc⟩ : ∃ z, z = w3.heap.size := ⟨_, rfl⟩
    obtain ⟨gy, hgy⟩ : ∃ z, z = gc + 1 := ⟨_, rfl⟩
    rw [← hgc] at HC HY HSG e4 z3 ⊢
    rw [← hgy] at HY ⊢
    have nyr : r < gy := by omega
    have ncy : gc < gy := by omega
    clear hw4 hw5 b4 b5 b45 e4 hsg hgc hgy
    go_wp2_with fail
    go_loopw [9] (fun i wx => ∃ (k p5 : Nat), k ≤ 4 ∧ i = .int .i64 k ∧ Hid (Rd wx r s n c p5) ∧ Hid (Below w.heap.size w wx) ∧ Hid (IB gc 8 wx) ∧ Hid (IB gy 5 wx) ∧ Hid (SwA (r + 1) wx so M)) (fun i _ => 4 - (intOf i).toNat)
    case atStart => exact ⟨0, p2, by omega, rfl, HR, HB, HC, HY, HS⟩
    case round =>
      clear HR HB HC HY HS
      obtain ⟨k, p5, hk, rfl, HR, HB, HC, HY, HS⟩ := hrel
      by_cases hlt : k < 4
      case pos =>
        have k1 : (k : Int) < 4 := by omega
        have zr2 : r < wr.heap.size := HR.out.1
        obtain ⟨y0, hy0⟩ := HC.out.2.2 (k * 2 + 1) (by omega)
        rename World => wq
        go_upto_region 11 with fail
        refine wp_region_held_drew (S := fun w' => True) (by kernel_rfl) ?_ (fun hHeld => ?_)
        · trivial
        refine wpAnyH_take (i := 0) (v := .slice (some ⟨gc, 0, none⟩) 4 4) rfl (by kernel_rfl) (by kernel_rfl) (by kernel_rfl) (fun _ _ _ h => h) (Or.inl ⟨by kernel_rfl, ?_⟩) hHeld ?_
        · intro w' hSw
          first | (go_simp; done) | (go_simp; with_reducible rfl) | (go_simp; rw [IntKind.wrap_i64]; omega) | (go_simp; omega)
        simp only [Act.put, List.setIfInBounds_toArray, List.set_cons_zero, List.set_cons_succ]
        refine wpAnyH_take (i := 1) (v := .int .i64 (k : Int)) rfl (by kernel_rfl) (by kernel_rfl) (by kernel_rfl) (fun _ _ _ h => h) (Or.inl ⟨by kernel_rfl, ?_⟩) hHeld ?_
        · intro w' hSw
          first | (go_simp; done) | (go_simp; with_reducible rfl) | (go_simp; rw [IntKind.wrap_i64]; omega) | (go_simp; omega)
        simp only [Act.put, List.setIfInBounds_toArray, List.set_cons_zero, List.set_cons_succ]
        refine wpAnyH_take (i := 2) (v := .slice (some ⟨gc, 0, none⟩) 4 4) rfl (by kernel_rfl) (by kernel_rfl) (by kernel_rfl) (fun _ _ _ h => h) (Or.inl ⟨by kernel_rfl, ?_⟩) hHeld ?_
        · intro w' hSw
          first | (go_simp; done) | (go_simp; with_reducible rfl) | (go_simp; rw [IntKind.wrap_i64]; omega) | (go_simp; omega)
        simp only [Act.put, List.setIfInBounds_toArray, List.set_cons_zero, List.set_cons_succ]
        refine wpAnyH_take (i := 3) (v := .int .i64 (k : Int)) rfl (by kernel_rfl) (by kernel_rfl) (by kernel_rfl) (fun _ _ _ h => h) (Or.inl ⟨by kernel_rfl, ?_⟩) hHeld ?_
        · intro w' hSw
          first | (go_simp; done) | (go_simp; with_reducible rfl) | (go_simp; rw [IntKind.wrap_i64]; omega) | (go_simp; omega)
        simp only [Act.put, List.setIfInBounds_toArray, List.set_cons_zero, List.set_cons_succ]
        refine wpAnyH_take (i := 4) (v := .pointer (some ⟨gc, k * 2, none⟩)) rfl (by kernel_rfl) (by kernel_rfl) (by kernel_rfl) (fun _ _ _ h => h) (Or.inl ⟨by kernel_rfl, ?_⟩) hHeld ?_
        · intro w' hSw
          first | (go_simp; done) | (go_simp; with_reducible rfl) | (go_simp; rw [IntKind.wrap_i64]; omega) | (go_simp; omega)
        simp only [Act.put, List.setIfInBounds_toArray, List.set_cons_zero, List.set_cons_succ]
        refine wpAnyH_take (i := 5) (v := .pointer (some ⟨gc, k * 2 + 1, none⟩)) rfl (by kernel_rfl) (by kernel_rfl) (by kernel_rfl) (fun _ _ _ h => h) (Or.inl ⟨by kernel_rfl, ?_⟩) hHeld ?_
        · intro w' hSw
          first | (go_simp; done) | (go_simp; with_reducible rfl) | (go_simp; rw [IntKind.wrap_i64]; omega) | (go_simp; omega)
        simp only [Act.put, List.setIfInBounds_toArray, List.set_cons_zero, List.set_cons_succ]
        refine wpAnyH_take (i := 7) (v := .slice (some ⟨gy, 0, none⟩) 5 5) rfl (by kernel_rfl) (by kernel_rfl) (by kernel_rfl) (fun _ _ _ h => h) (Or.inl ⟨by kernel_rfl, ?_⟩) hHeld ?_
        · intro w' hSw
          first | (go_simp; done) | (go_simp; with_reducible rfl) | (go_simp; rw [IntKind.wrap_i64]; omega) | (go_simp; omega)
        simp only [Act.put, List.setIfInBounds_toArray, List.set_cons_zero, List.set_cons_succ]
        refine wpAnyH_take (i := 8) (v := .pointer (some ⟨r, 0, none⟩)) rfl (by kernel_rfl) (by kernel_rfl) (by kernel_rfl) (fun _ _ _ h => h) (Or.inl ⟨by kernel_rfl, ?_⟩) hHeld ?_
        · intro w' hSw
          first | (go_simp; done) | (go_simp; with_reducible rfl) | (go_simp; rw [IntKind.wrap_i64]; omega) | (go_simp; omega)
        simp only [Act.put, List.setIfInBounds_toArray, List.set_cons_zero, List.set_cons_succ]
        obtain ⟨v0, hv0⟩ : ∃ z, z = wq.drew := ⟨_, rfl⟩
        try rw [← hv0] at hHeld
        rw [← hv0]
        have bv0 : Below wq.heap.size wq v0 := by rw [hv0]; exact Below.drew (Below.refl _ _)
        clear hv0
        have HY0 : Hid (v0.cell? ⟨gc, k * 2 + 1, none⟩ = some (.int .i64 y0)) := (bv0.cell (p := ⟨gc, k * 2 + 1, none⟩) HC.out.1).trans hy0
        replace HC : Hid (IB gc 8 v0) := HC.out.below bv0
        replace HY : Hid (IB gy 5 v0) := HY.out.below bv0
        replace HS : Hid (SwA (r + 1) v0 so M) := HS.out.below bv0
        replace HR : Hid (Rd v0 r s n c p5) := HR.out.below bv0
        replace HB : Hid (Below w.heap.size w v0) := HB.out.trans (bv0.mono HB.out.size)
        clear bv0 hy0
        refine wpAnyH_ready (rs := [6, 9]) (by kernel_rfl) (by simp) ?_
        refine (AllReadyH.cons rfl (fun KK hK => ?_) (AllReadyH.cons rfl (fun KK hK => ?_) AllReadyH.nil))
        · have hl_ : v0.cell? ⟨gc, k * 2 + 1, none⟩ = some (.int .i64 y0) := HY0.out
          go_simp
          clear hl_
          refine hK.out _ _ (trivial) (fun hHeld => ?_)
          clear hK KK
          refine wpAnyH_ready (rs := [9]) (by kernel_rfl) (by simp) ?_
          refine (AllReadyH.cons rfl (fun KK hK => ?_) AllReadyH.nil)
          go_simp
          go_wp2_with (first | (go_at_call 48; refine (below_any 5 HR).mono ?_; rintro e v0_2 ⟨j9, p6, rfl, j90, j91, j92, R9, b9⟩; obtain ⟨jn, rfl⟩ : ∃ jn : Nat, j9 = jn := ⟨j9.toNat, (by omega)⟩; have jl2 : ((jn : Nat) : Int) < 5 := (by omega); have zr9 : r < v0.heap.size := HR.out.1; replace HY0 : Hid (v0_2.cell? ⟨gc, k * 2 + 1, none⟩ = some (.int .i64 y0)) := (b9.cell (p := ⟨gc, k * 2 + 1, none⟩) HC.out.1 (show gc ≠ r from (by omega))).trans HY0.out; replace HC : Hid (IB gc 8 v0_2) := HC.out.beside b9 (by omega); replace HY : Hid (IB gy 5 v0_2) := HY.out.beside b9 (by omega); replace HS : Hid (SwA (r + 1) v0_2 so M) := HS.out.beside b9 (by omega); replace HB : Hid (Below w.heap.size w v0_2) := HB.out.trans (b9.below (by omega) HB.out.size); replace HR : Hid (Rd v0_2 r s n c p6) := R9; clear R9 b9 zr9 j91 j92))
          obtain ⟨yb, hyb⟩ := HY.out.2.2 jn (by omega)
          have HYB : Hid (v0_2.cell? ⟨gy, jn, none⟩ = some (.int .i64 yb)) := hyb
          clear hyb
          refine hK.out _ _ (trivial) (fun hHeld => ?_)
          clear hK KK
          refine wpAnyH_take (i := 10) (v := .pointer (some ⟨gy, jn, none⟩)) rfl (by kernel_rfl) (by kernel_rfl) (by kernel_rfl) (fun _ _ _ h => h) (Or.inl ⟨by kernel_rfl, ?_⟩) hHeld ?_
          · intro w' hSw
            first | (go_simp; done) | (go_simp; with_reducible rfl) | (go_simp; rw [IntKind.wrap_i64]; omega) | (go_simp; omega)
          simp only [Act.put, List.setIfInBounds_toArray, List.set_cons_zero, List.set_cons_succ]
          refine wpAnyH_ready (rs := [11]) (by kernel_rfl) (by simp) ?_
          refine (AllReadyH.cons rfl (fun KK hK => ?_) AllReadyH.nil)
          have hl_ : v0_2.cell? ⟨gy, jn, none⟩ = some (.int .i64 yb) := HYB.out
          go_simp
          clear hl_
          refine hK.out _ _ (trivial) (fun hHeld => ?_)
          clear hK KK
          refine wpAnyH_take (i := 12) (v := .int .i64 (IntKind.i64.wrap (y0 * yb))) rfl (by kernel_rfl) (by kernel_rfl) (by kernel_rfl) (fun _ _ _ h => h) (Or.inl ⟨by kernel_rfl, ?_⟩) hHeld ?_
          · intro w' hSw
            first | (go_simp; done) | (go_simp; with_reducible rfl) | (go_simp; rw [IntKind.wrap_i64]; omega) | (go_simp; omega)
          simp only [Act.put, List.setIfInBounds_toArray, List.set_cons_zero, List.set_cons_succ]
          refine wpAnyH_take (i := 13) (v := .pointer (some ⟨gc, k * 2, none⟩)) rfl (by kernel_rfl) (by kernel_rfl) (by kernel_rfl) (fun _ _ _ h => h) (Or.inl ⟨by kernel_rfl, ?_⟩) hHeld ?_
          · intro w' hSw
            first | (go_simp; done) | (go_simp; with_reducible rfl) | (go_simp; rw [IntKind.wrap_i64]; omega) | (go_simp; omega)
          simp only [Act.put, List.setIfInBounds_toArray, List.set_cons_zero, List.set_cons_succ]
          refine wpAnyH_take (i := 14) (v := .pointer (some ⟨gc, k * 2 + 1, none⟩)) rfl (by kernel_rfl) (by kernel_rfl) (by kernel_rfl) (fun _ _ _ h => h) (Or.inl ⟨by kernel_rfl, ?_⟩) hHeld ?_
          · intro w' hSw
            first | (go_simp; done) | (go_simp; with_reducible rfl) | (go_simp; rw [IntKind.wrap_i64]; omega) | (go_simp; omega)
          simp only [Act.put, List.setIfInBounds_toArray, List.set_cons_zero, List.set_cons_succ]
          refine wpAnyH_ready (rs := [15]) (by kernel_rfl) (by simp) ?_
          refine (AllReadyH.cons rfl (fun KK hK => ?_) AllReadyH.nil)
          have hl_ : v0_2.cell? ⟨gc, k * 2 + 1, none⟩ = some (.int .i64 y0) := HY0.out
          have hf_ : v0_2.frozen? ⟨gc, k * 2 + 1, none⟩ = false := HC.out.2.1 _
          go_simp
          obtain ⟨v0_4, hv_⟩ : ∃ z, z = v0_2.setCell ⟨gc, k * 2 + 1, none⟩ (.int .i64 (IntKind.i64.wrap (y0 * yb))) := ⟨_, rfl⟩
          rw [← hv_]
          have bs_ : Beside gc v0_2 v0_4 := by rw [hv_]; exact Beside.setCell gc _ _ _
          have zr9 : r < v0_2.heap.size := HR.out.1
          have HC9 : Hid (IB gc 8 v0_4) := by show IB _ _ _; rw [hv_]; exact HC.out.set _ _
          have HY9 : Hid (IB gy 5 v0_4) := HY.out.beside bs_ (by omega)
          have HS9 : Hid (SwA (r + 1) v0_4 so M) := HS.out.apart bs_ (fun g e hm => by have := HSG.out g e hm; omega)
          have HR9 : Hid (Rd v0_4 r s n c p6) := Rd.below' HR.out (bs_.below (by omega) (by omega))
          have HB9 : Hid (Below w.heap.size w v0_4) := HB.out.trans (bs_.below (by omega) HB.out.size)
          clear hv_ bs_ zr9 hl_ hf_
          refine hK.out _ _ (trivial) (fun hHeld => ?_)
          clear hK KK
          refine wpAnyH_done (by kernel_rfl) ?_ _
          clear hHeld
          go_wp2
          go_roundw
          case rel => exact ⟨k + 1, p6, by omega, by go_num, HR9, HB9, HC9, HY9, HS9⟩
          case measure => simp [intOf]; omega
        · go_simp
          go_wp2_with (first | (go_at_call 48; refine (below_any 5 HR).mono ?_; rintro e v0_5 ⟨j9, p6, rfl, j90, j91, j92, R9, b9⟩; obtain ⟨jn, rfl⟩ : ∃ jn : Nat, j9 = jn := ⟨j9.toNat, (by omega)⟩; have jl2 : ((jn : Nat) : Int) < 5 := (by omega); have zr9 : r < v0.heap.size := HR.out.1; replace HY0 : Hid (v0_5.cell? ⟨gc, k * 2 + 1, none⟩ = some (.int .i64 y0)) := (b9.cell (p := ⟨gc, k * 2 + 1, none⟩) HC.out.1 (show gc ≠ r from (by omega))).trans HY0.out; replace HC : Hid (IB gc 8 v0_5) := HC.out.beside b9 (by omega); replace HY : Hid (IB gy 5 v0_5) := HY.out.beside b9 (by omega); replace HS : Hid (SwA (r + 1) v0_5 so M) := HS.out.beside b9 (by omega); replace HB : Hid (Below w.heap.size w v0_5) := HB.out.trans (b9.below (by omega) HB.out.size); replace HR : Hid (Rd v0_5 r s n c p6) := R9; clear R9 b9 zr9 j91 j92))
          obtain ⟨yb, hyb⟩ := HY.out.2.2 jn (by omega)
          have HYB : Hid (v0_5.cell? ⟨gy, jn, none⟩ = some (.int .i64 yb)) := hyb
          clear hyb
          refine hK.out _ _ (trivial) (fun hHeld => ?_)
          clear hK KK
          refine wpAnyH_take (i := 10) (v := .pointer (some ⟨gy, jn, none⟩)) rfl (by kernel_rfl) (by kernel_rfl) (by kernel_rfl) (fun _ _ _ h => h) (Or.inl ⟨by kernel_rfl, ?_⟩) hHeld ?_
          · intro w' hSw
            first | (go_simp; done) | (go_simp; with_reducible rfl) | (go_simp; rw [IntKind.wrap_i64]; omega) | (go_simp; omega)
          simp only [Act.put, List.setIfInBounds_toArray, List.set_cons_zero, List.set_cons_succ]
          refine wpAnyH_ready (rs := [6, 11]) (by kernel_rfl) (by simp) ?_
          refine (AllReadyH.cons rfl (fun KK hK => ?_) (AllReadyH.cons rfl (fun KK hK => ?_) AllReadyH.nil))
          · have hl_ : v0_5.cell? ⟨gc, k * 2 + 1, none⟩ = some (.int .i64 y0) := HY0.out
            go_simp
            clear hl_
            refine hK.out _ _ (trivial) (fun hHeld => ?_)
            clear hK KK
            refine wpAnyH_ready (rs := [11]) (by kernel_rfl) (by simp) ?_
            refine (AllReadyH.cons rfl (fun KK hK => ?_) AllReadyH.nil)
            have hl_ : v0_5.cell? ⟨gy, jn, none⟩ = some (.int .i64 yb) := HYB.out
            go_simp
            clear hl_
            refine hK.out _ _ (trivial) (fun hHeld => ?_)
            clear hK KK
            refine wpAnyH_take (i := 12) (v := .int .i64 (IntKind.i64.wrap (y0 * yb))) rfl (by kernel_rfl) (by kernel_rfl) (by kernel_rfl) (fun _ _ _ h => h) (Or.inl ⟨by kernel_rfl, ?_⟩) hHeld ?_
            · intro w' hSw
              first | (go_simp; done) | (go_simp; with_reducible rfl) | (go_simp; rw [IntKind.wrap_i64]; omega) | (go_simp; omega)
            simp only [Act.put, List.setIfInBounds_toArray, List.set_cons_zero, List.set_cons_succ]
            refine wpAnyH_take (i := 13) (v := .pointer (some ⟨gc, k * 2, none⟩)) rfl (by kernel_rfl) (by kernel_rfl) (by kernel_rfl) (fun _ _ _ h => h) (Or.inl ⟨by kernel_rfl, ?_⟩) hHeld ?_
            · intro w' hSw
              first | (go_simp; done) | (go_simp; with_reducible rfl) | (go_simp; rw [IntKind.wrap_i64]; omega) | (go_simp; omega)
            simp only [Act.put, List.setIfInBounds_toArray, List.set_cons_zero, List.set_cons_succ]
            refine wpAnyH_take (i := 14) (v := .pointer (some ⟨gc, k * 2 + 1, none⟩)) rfl (by kernel_rfl) (by kernel_rfl) (by kernel_rfl) (fun _ _ _ h => h) (Or.inl ⟨by kernel_rfl, ?_⟩) hHeld ?_
            · intro w' hSw
              first | (go_simp; done) | (go_simp; with_reducible rfl) | (go_simp; rw [IntKind.wrap_i64]; omega) | (go_simp; omega)
            simp only [Act.put, List.setIfInBounds_toArray, List.set_cons_zero, List.set_cons_succ]
            refine wpAnyH_ready (rs := [15]) (by kernel_rfl) (by simp) ?_
            refine (AllReadyH.cons rfl (fun KK hK => ?_) AllReadyH.nil)
            have hl_ : v0_5.cell? ⟨gc, k * 2 + 1, none⟩ = some (.int .i64 y0) := HY0.out
            have hf_ : v0_5.frozen? ⟨gc, k * 2 + 1, none⟩ = false := HC.out.2.1 _
            go_simp
            obtain ⟨v0_8, hv_⟩ : ∃ z, z = v0_5.setCell ⟨gc, k * 2 + 1, none⟩ (.int .i64 (IntKind.i64.wrap (y0 * yb))) := ⟨_, rfl⟩
            rw [← hv_]
            have bs_ : Beside gc v0_5 v0_8 := by rw [hv_]; exact Beside.setCell gc _ _ _
            have zr9 : r < v0_5.heap.size := HR.out.1
            have HC9 : Hid (IB gc 8 v0_8) := by show IB _ _ _; rw [hv_]; exact HC.out.set _ _
            have HY9 : Hid (IB gy 5 v0_8) := HY.out.beside bs_ (by omega)
            have HS9 : Hid (SwA (r + 1) v0_8 so M) := HS.out.apart bs_ (fun g e hm => by have := HSG.out g e hm; omega)
            have HR9 : Hid (Rd v0_8 r s n c p6) := Rd.below' HR.out (bs_.below (by omega) (by omega))
            have HB9 : Hid (Below w.heap.size w v0_8) := HB.out.trans (bs_.below (by omega) HB.out.size)
            clear hv_ bs_ zr9 hl_ hf_
            refine hK.out _ _ (trivial) (fun hHeld => ?_)
            clear hK KK
            refine wpAnyH_done (by kernel_rfl) ?_ _
            clear hHeld
            go_wp2
            go_roundw
            case rel => exact ⟨k + 1, p6, by omega, by go_num, HR9, HB9, HC9, HY9, HS9⟩
            case measure => simp [intOf]; omega
          · have hl_ : v0_5.cell? ⟨gy, jn, none⟩ = some (.int .i64 yb) := HYB.out
            go_simp
            clear hl_
            refine hK.out _ _ (trivial) (fun hHeld => ?_)
            clear hK KK
            refine wpAnyH_ready (rs := [6]) (by kernel_rfl) (by simp) ?_
            refine (AllReadyH.cons rfl (fun KK hK => ?_) AllReadyH.nil)
            have hl_ : v0_5.cell? ⟨gc, k * 2 + 1, none⟩ = some (.int .i64 y0) := HY0.out
            go_simp
            clear hl_
            refine hK.out _ _ (trivial) (fun hHeld => ?_)
            clear hK KK
            refine wpAnyH_take (i := 12) (v := .int .i64 (IntKind.i64.wrap (y0 * yb))) rfl (by kernel_rfl) (by kernel_rfl) (by kernel_rfl) (fun _ _ _ h => h) (Or.inl ⟨by kernel_rfl, ?_⟩) hHeld ?_
            · intro w' hSw
              first | (go_simp; done) | (go_simp; with_reducible rfl) | (go_simp; rw [IntKind.wrap_i64]; omega) | (go_simp; omega)
            simp only [Act.put, List.setIfInBounds_toArray, List.set_cons_zero, List.set_cons_succ]
            refine wpAnyH_take (i := 13) (v := .pointer (some ⟨gc, k * 2, none⟩)) rfl (by kernel_rfl) (by kernel_rfl) (by kernel_rfl) (fun _ _ _ h => h) (Or.inl ⟨by kernel_rfl, ?_⟩) hHeld ?_
            · intro w' hSw
              first | (go_simp; done) | (go_simp; with_reducible rfl) | (go_simp; rw [IntKind.wrap_i64]; omega) | (go_simp; omega)
            simp only [Act.put, List.setIfInBounds_toArray, List.set_cons_zero, List.set_cons_succ]
            refine wpAnyH_take (i := 14) (v := .pointer (some ⟨gc, k * 2 + 1, none⟩)) rfl (by kernel_rfl) (by kernel_rfl) (by kernel_rfl) (fun _ _ _ h => h) (Or.inl ⟨by kernel_rfl, ?_⟩) hHeld ?_
            · intro w' hSw
              first | (go_simp; done) | (go_simp; with_reducible rfl) | (go_simp; rw [IntKind.wrap_i64]; omega) | (go_simp; omega)
            simp only [Act.put, List.setIfInBounds_toArray, List.set_cons_zero, List.set_cons_succ]
            refine wpAnyH_ready (rs := [15]) (by kernel_rfl) (by simp) ?_
            refine (AllReadyH.cons rfl (fun KK hK => ?_) AllReadyH.nil)
            have hl_ : v0_5.cell? ⟨gc, k * 2 + 1, none⟩ = some (.int .i64 y0) := HY0.out
            have hf_ : v0_5.frozen? ⟨gc, k * 2 + 1, none⟩ = false := HC.out.2.1 _
            go_simp
            obtain ⟨v0_11, hv_⟩ : ∃ z, z = v0_5.setCell ⟨gc, k * 2 + 1, none⟩ (.int .i64 (IntKind.i64.wrap (y0 * yb))) := ⟨_, rfl⟩
            rw [← hv_]
            have bs_ : Beside gc v0_5 v0_11 := by rw [hv_]; exact Beside.setCell gc _ _ _
            have zr9 : r < v0_5.heap.size := HR.out.1
            have HC9 : Hid (IB gc 8 v0_11) := by show IB _ _ _; rw [hv_]; exact HC.out.set _ _
            have HY9 : Hid (IB gy 5 v0_11) := HY.out.beside bs_ (by omega)
            have HS9 : Hid (SwA (r + 1) v0_11 so M) := HS.out.apart bs_ (fun g e hm => by have := HSG.out g e hm; omega)
            have HR9 : Hid (Rd v0_11 r s n c p6) := Rd.below' HR.out (bs_.below (by omega) (by omega))
            have HB9 : Hid (Below w.heap.size w v0_11) := HB.out.trans (bs_.below (by omega) HB.out.size)
            clear hv_ bs_ zr9 hl_ hf_
            refine hK.out _ _ (trivial) (fun hHeld => ?_)
            clear hK KK
            refine wpAnyH_done (by kernel_rfl) ?_ _
            clear hHeld
            go_wp2
            go_roundw
            case rel => exact ⟨k + 1, p6, by omega, by go_num, HR9, HB9, HC9, HY9, HS9⟩
            case measure => simp [intOf]; omega
      case neg =>
        obtain rfl : k = 4 := by omega
        rename World => wl
        clear hk hlt HY
        go_wp2_with fail
        refine (once_any 3 (by omega) (by omega) HR).mono ?_
        rintro e w10 ⟨f1, p6, rfl, R_, b_⟩
        have zr_ : r < wl.heap.size := HR.out.1
        replace HC : Hid (IB gc 8 w10) := HC.out.beside b_ (by omega)
        replace HS : Hid (SwA (r + 1) w10 so M) := HS.out.beside b_ (by omega)
        replace HB : Hid (Below w.heap.size w w10) := HB.out.trans (b_.below (by omega) HB.out.size)
        replace HR : Hid (Rd w10 r s n c p6) := R_
        clear R_ b_ zr_
        cases f1
        case false =>
          go_wp2_with fail
          refine (once_any 10 (by omega) (by omega) HR).mono ?_
          rintro e w11 ⟨f2, p7, rfl, R_, b_⟩
          have zr_ : r < w10.heap.size := HR.out.1
          replace HC : Hid (IB gc 8 w11) := HC.out.beside b_ (by omega)
          replace HS : Hid (SwA (r + 1) w11 so M) := HS.out.beside b_ (by omega)
          replace HB : Hid (Below w.heap.size w w11) := HB.out.trans (b_.below (by omega) HB.out.size)
          replace HR : Hid (Rd w11 r s n c p7) := R_
          clear R_ b_ zr_
          cases f2
          case false =>
            go_wp2_with fail
            refine (once_any 10 (by omega) (by omega) HR).mono ?_
            rintro e w12 ⟨f3, p9, rfl, R_, b_⟩
            have zr_ : r < w11.heap.size := HR.out.1
            replace HC : Hid (IB gc 8 w12) := HC.out.beside b_ (by omega)
            replace HS : Hid (SwA (r + 1) w12 so M) := HS.out.beside b_ (by omega)
            replace HB : Hid (Below w.heap.size w w12) := HB.out.trans (b_.below (by omega) HB.out.size)
            replace HR : Hid (Rd w12 r s n c p9) := R_
            clear R_ b_ zr_
            cases f3
            case false =>
              obtain ⟨V1, hV1⟩ := HS.out.row
              obtain ⟨V2, hV2⟩ := HC.out.row
              have BF := HB.out
              go_wp2
              refine bodyPost_ret (v := .tuple #[.slice so M co, .slice (some ⟨gc, 0, none⟩) 4 4]) (by first | (simp [results, Try.results23, go_sem]; done) | (simp [results, Try.results23, go_sem]; omega)) rfl ?_
              unfold LifPost
              exact ⟨so, M, co, V1, _, V2, rfl, hQ, hV1, hV2, BF⟩
            case true =>
              by_cases hM0 : M = 0
              case pos =>
                have m0 : ¬ (0 : Int) < (M : Int) := by omega
                obtain ⟨V1, hV1⟩ := HS.out.row
                obtain ⟨V2, hV2⟩ := HC.out.row
                have BF := HB.out
                go_wp2
                refine bodyPost_ret (v := .tuple #[.slice so M co, .slice (some ⟨gc, 0, none⟩) 4 4]) (by first | (simp [results, Try.results23, go_sem]; done) | (simp [results, Try.results23, go_sem]; omega)) rfl ?_
                unfold LifPost
                exact ⟨so, M, co, V1, _, V2, rfl, hQ, hV1, hV2, BF⟩
              case neg =>
                have m0 : (0 : Int) < (M : Int) := by omega
                go_wp2_with fail
                refine (below_any (M : Int) HR).mono ?_
                rintro e w13 ⟨ix, p10, rfl, ix0, ix1, ix2, R_, b_⟩
                have zr_ : r < w12.heap.size := HR.out.1
                replace HC : Hid (IB gc 8 w13) := HC.out.beside b_ (by omega)
                replace HS : Hid (SwA (r + 1) w13 so M) := HS.out.beside b_ (by omega)
                replace HB : Hid (Below w.heap.size w w13) := HB.out.trans (b_.below (by omega) HB.out.size)
                replace HR : Hid (Rd w13 r s n c p10) := R_
                clear R_ b_ zr_
                obtain ⟨xq, rfl⟩ : ∃ xq : Nat, ix = xq := ⟨ix.toNat, by omega⟩
                have xM : xq < M := by omega
                have xMi : (xq : Int) < (M : Int) := by omega
                clear ix1 ix2
                go_wp2_with fail
                refine (off_any 1 2 (by omega) (by omega) (by omega) HR).mono ?_
                rintro e w14 ⟨va, p11, rfl, va0, R_, b_⟩
                have zr_ : r < w13.heap.size := HR.out.1
                replace HC : Hid (IB gc 8 w14) := HC.out.beside b_ (by omega)
                replace HS : Hid (SwA (r + 1) w14 so M) := HS.out.beside b_ (by omega)
                replace HB : Hid (Below w.heap.size w w14) := HB.out.trans (b_.below (by omega) HB.out.size)
                replace HR : Hid (Rd w14 r s n c p11) := R_
                clear R_ b_ zr_
                obtain ⟨g, rfl, gB, hI⟩ := HS.out (by omega)
                have HI : Hid (IB g (M * 2) w14) := hI
                have fz_ : w14.frozen? ⟨g, xq * 2 + 1, none⟩ = false := hI.2.1 _
                obtain ⟨yo_, cz_⟩ := hI.2.2 (xq * 2 + 1) (by omega)
                have gc9 := HSG.out g rfl (by omega)
                clear hI
                go_upto_region 21 with fail
                obtain ⟨w15, hw_⟩ : ∃ x_, x_ = w14.setCell ⟨g, xq * 2 + 1, none⟩ (.int .i64 va) := ⟨_, rfl⟩
                rw [← hw_]
                have bs_ : Beside g w14 w15 := by rw [hw_]; exact Beside.setCell g _ _ _
                replace HC : Hid (IB gc 8 w15) := HC.out.beside bs_ (by omega)
                replace HI : Hid (IB g (M * 2) w15) := by show IB _ _ _; rw [hw_]; exact HI.out.set _ _
                replace HS : Hid (SwA (r + 1) w15 (some ⟨g, 0, none⟩) M) := fun _ => ⟨g, rfl, gB, HI.out⟩
                replace HB : Hid (Below w.heap.size w w15) := HB.out.trans (bs_.below (by omega) HB.out.size)
                clear hw_ bs_ fz_ cz_ HI
                obtain ⟨V1, hV1⟩ := HS.out.row
                obtain ⟨V2, hV2⟩ := HC.out.row
                have BF := HB.out
                go_wp2
                refine bodyPost_ret (v := .tuple #[.slice (some ⟨g, 0, none⟩) M co, .slice (some ⟨gc, 0, none⟩) 4 4]) (by first | (simp [results, Try.results23, go_sem]; done) | (simp [results, Try.results23, go_sem]; omega)) rfl ?_
                unfold LifPost
                exact ⟨_, M, co, V1, _, V2, rfl, hQ, hV1, hV2, BF⟩
          case true =>
            go_wp2_with fail
            refine (below_any 4 HR).mono ?_
            rintro e w16 ⟨ic, p8, rfl, ic0, ic1, ic2, R_, b_⟩
            have zr_ : r < w11.heap.size := HR.out.1
            replace HC : Hid (IB gc 8 w16) := HC.out.beside b_ (by omega)
            replace HS : Hid (SwA (r + 1) w16 so M) := HS.out.beside b_ (by omega)
            replace HB : Hid (Below w.heap.size w w16) := HB.out.trans (b_.below (by omega) HB.out.size)
            replace HR : Hid (Rd w16 r s n c p8) := R_
            clear R_ b_ zr_
            obtain ⟨cq, rfl⟩ : ∃ cq : Nat, ic = cq := ⟨ic.toNat, by omega⟩
            have c4 : cq < 4 := by omega
            have c4i : (cq : Int) < 4 := by omega
            clear ic1 ic2
            go_wp2_with fail
            refine (near_any (-2) 3 (by omega) (by omega) (by omega) HR).mono ?_
            rintro e w17 ⟨vc, p8b, rfl, vc0, vc1, R_, b_⟩
            have zr_ : r < w16.heap.size := HR.out.1
            replace HC : Hid (IB gc 8 w17) := HC.out.beside b_ (by omega)
            replace HS : Hid (SwA (r + 1) w17 so M) := HS.out.beside b_ (by omega)
            replace HB : Hid (Below w.heap.size w w17) := HB.out.trans (b_.below (by omega) HB.out.size)
            replace HR : Hid (Rd w17 r s n c p8b) := R_
            clear R_ b_ zr_
            have fz_ : w17.frozen? ⟨gc, cq * 2 + 1, none⟩ = false := HC.out.2.1 _
            obtain ⟨yo_, cz_⟩ := HC.out.2.2 (cq * 2 + 1) (by omega)
            go_upto_region 19 with fail
            obtain ⟨w18, hw_⟩ : ∃ x_, x_ = w17.setCell ⟨gc, cq * 2 + 1, none⟩ (.int .i64 vc) := ⟨_, rfl⟩
            rw [← hw_]
            have bs_ : Beside gc w17 w18 := by rw [hw_]; exact Beside.setCell gc _ _ _
            have zr_ : r < w17.heap.size := HR.out.1
            replace HC : Hid (IB gc 8 w18) := by show IB _ _ _; rw [hw_]; exact HC.out.set _ _
            replace HS : Hid (SwA (r + 1) w18 so M) := HS.out.apart bs_ (fun g e hm => by have := HSG.out g e hm; omega)
            replace HR : Hid (Rd w18 r s n c p8b) := Rd.below' HR.out (bs_.below (by omega) (by omega))
            replace HB : Hid (Below w.heap.size w w18) := HB.out.trans (bs_.below (by omega) HB.out.size)
            clear hw_ bs_ zr_ fz_ cz_
            go_wp2_with fail
            refine (once_any 10 (by omega) (by omega) HR).mono ?_
            rintro e w19 ⟨f3, p9, rfl, R_, b_⟩
            have zr_ : r < w18.heap.size := HR.out.1
            replace HC : Hid (IB gc 8 w19) := HC.out.beside b_ (by omega)
            replace HS : Hid (SwA (r + 1) w19 so M) := HS.out.beside b_ (by omega)
            replace HB : Hid (Below w.heap.size w w19) := HB.out.trans (b_.below (by omega) HB.out.size)
            replace HR : Hid (Rd w19 r s n c p9) := R_
            clear R_ b_ zr_
            cases f3
            case false =>
              obtain ⟨V1, hV1⟩ := HS.out.row
              obtain ⟨V2, hV2⟩ := HC.out.row
              have BF := HB.out
              go_wp2
              refine bodyPost_ret (v := .tuple #[.slice so M co, .slice (some ⟨gc, 0, none⟩) 4 4]) (by first | (simp [results, Try.results23, go_sem]; done) | (simp [results, Try.results23, go_sem]; omega)) rfl ?_
              unfold LifPost
              exact ⟨so, M, co, V1, _, V2, rfl, hQ, hV1, hV2, BF⟩
            case true =>
              by_cases hM0 : M = 0
              case pos =>
                have m0 : ¬ (0 : Int) < (M : Int) := by omega
                obtain ⟨V1, hV1⟩ := HS.out.row
                obtain ⟨V2, hV2⟩ := HC.out.row
                have BF := HB.out
                go_wp2
                refine bodyPost_ret (v := .tuple #[.slice so M co, .slice (some ⟨gc, 0, none⟩) 4 4]) (by first | (simp [results, Try.results23, go_sem]; done) | (simp [results, Try.results23, go_sem]; omega)) rfl ?_
                unfold LifPost
                exact ⟨so, M, co, V1, _, V2, rfl, hQ, hV1, hV2, BF⟩
              case neg =>
                have m0 : (0 : Int) < (M : Int) := by omega
                go_wp2_with fail
                refine (below_any (M : Int) HR).mono ?_
                rintro e w20 ⟨ix, p10, rfl, ix0, ix1, ix2, R_, b_⟩
                have zr_ : r < w19.heap.size := HR.out.1
                replace HC : Hid (IB gc 8 w20) := HC.out.beside b_ (by omega)
                replace HS : Hid (SwA (r + 1) w20 so M) := HS.out.beside b_ (by omega)
                replace HB : Hid (Below w.heap.size w w20) := HB.out.trans (b_.below (by omega) HB.out.size)
                replace HR : Hid (Rd w20 r s n c p10) := R_
                clear R_ b_ zr_
                obtain ⟨xq, rfl⟩ : ∃ xq : Nat, ix = xq := ⟨ix.toNat, by omega⟩
                have xM : xq < M := by omega
                have xMi : (xq : Int) < (M : Int) := by omega
                clear ix1 ix2
                go_wp2_with fail
                refine (off_any 1 2 (by omega) (by omega) (by omega) HR).mono ?_
                rintro e w21 ⟨va, p11, rfl, va0, R_, b_⟩
                have zr_ : r < w20.heap.size := HR.out.1
                replace HC : Hid (IB gc 8 w21) := HC.out.beside b_ (by omega)
                replace HS : Hid (SwA (r + 1) w21 so M) := HS.out.beside b_ (by omega)
                replace HB : Hid (Below w.heap.size w w21) := HB.out.trans (b_.below (by omega) HB.out.size)
                replace HR : Hid (Rd w21 r s n c p11) := R_
                clear R_ b_ zr_
                obtain ⟨g, rfl, gB, hI⟩ := HS.out (by omega)
                have HI : Hid (IB g (M * 2) w21) := hI
                have fz_ : w21.frozen? ⟨g, xq * 2 + 1, none⟩ = false := hI.2.1 _
                obtain ⟨yo_, cz_⟩ := hI.2.2 (xq * 2 + 1) (by omega)
                have gc9 := HSG.out g rfl (by omega)
                clear hI
                go_upto_region 21 with fail
                obtain ⟨w22, hw_⟩ : ∃ x_, x_ = w21.setCell ⟨g, xq * 2 + 1, none⟩ (.int .i64 va) := ⟨_, rfl⟩
                rw [← hw_]
                have bs_ : Beside g w21 w22 := by rw [hw_]; exact Beside.setCell g _ _ _
                replace HC : Hid (IB gc 8 w22) := HC.out.beside bs_ (by omega)
                replace HI : Hid (IB g (M * 2) w22) := by show IB _ _ _; rw [hw_]; exact HI.out.set _ _
                replace HS : Hid (SwA (r + 1) w22 (some ⟨g, 0, none⟩) M) := fun _ => ⟨g, rfl, gB, HI.out⟩
                replace HB : Hid (Below w.heap.size w w22) := HB.out.trans (bs_.below (by omega) HB.out.size)
                clear hw_ bs_ fz_ cz_ HI
                obtain ⟨V1, hV1⟩ := HS.out.row
                obtain ⟨V2, hV2⟩ := HC.out.row
                have BF := HB.out
                go_wp2
                refine bodyPost_ret (v := .tuple #[.slice (some ⟨g, 0, none⟩) M co, .slice (some ⟨gc, 0, none⟩) 4 4]) (by first | (simp [results, Try.results23, go_sem]; done) | (simp [results, Try.results23, go_sem]; omega)) rfl ?_
                unfold LifPost
                exact ⟨_, M, co, V1, _, V2, rfl, hQ, hV1, hV2, BF⟩
        case true =>
          go_wp2_with fail
          go_loopw [10] (fun i wx => ∃ (k : Nat), k ≤ 4 ∧ i = .int .i64 k ∧ Hid (Rd wx r s n c p6) ∧ Hid (Below w.heap.size w wx) ∧ Hid (IB gc 8 wx) ∧ Hid (SwA (r + 1) wx so M)) (fun i _ => 4 - (intOf i).toNat)
          case atStart => exact ⟨0, by omega, rfl, HR, HB, HC, HS⟩
          case round =>
            clear HR HB HC HS
            obtain ⟨k, hk, rfl, HR, HB, HC, HS⟩ := hrel
            by_cases hlt : k < 4
            case pos =>
              have k1 : (k : Int) < 4 := by omega
              obtain ⟨ya, hya⟩ := HC.out.2.2 1 (by omega)
              rename World => wq
              have fz_ : wq.frozen? ⟨gc, k * 2 + 1, none⟩ = false := HC.out.2.1 _
              obtain ⟨yo_, cz_⟩ := HC.out.2.2 (k * 2 + 1) (by omega)
              have zr_ : r < wq.heap.size := HR.out.1
              have HC9 : Hid (IB gc 8 (wq.setCell ⟨gc, k * 2 + 1, none⟩ (.int .i64 ya))) := HC.out.set _ _
              have bs_ : Beside gc wq (wq.setCell ⟨gc, k * 2 + 1, none⟩ (.int .i64 ya)) := Beside.setCell gc _ _ _
              have HS9 : Hid (SwA (r + 1) (wq.setCell ⟨gc, k * 2 + 1, none⟩ (.int .i64 ya)) so M) := HS.out.apart bs_ (fun g e hm => by have := HSG.out g e hm; omega)
              have HR9 : Hid (Rd (wq.setCell ⟨gc, k * 2 + 1, none⟩ (.int .i64 ya)) r s n c p6) := Rd.below' HR.out (bs_.below (by omega) (by omega))
              have HB9 : Hid (Below w.heap.size w (wq.setCell ⟨gc, k * 2 + 1, none⟩ (.int .i64 ya))) := HB.out.trans (bs_.below (by omega) HB.out.size)
              clear bs_
              go_wp2
              go_roundw
              case rel => exact ⟨k + 1, by omega, by go_num, HR9, HB9, HC9, HS9⟩
              case measure => simp [intOf]; omega
            case neg =>
              obtain rfl : k = 4 := by omega
              rename World => wm
              clear hk hlt
              go_wp2_with fail
              refine (once_any 10 (by omega) (by omega) HR).mono ?_
              rintro e w24 ⟨f2, p7, rfl, R_, b_⟩
              have zr_ : r < wm.heap.size := HR.out.1
              replace HC : Hid (IB gc 8 w24) := HC.out.beside b_ (by omega)
              replace HS : Hid (SwA (r + 1) w24 so M) := HS.out.beside b_ (by omega)
              replace HB : Hid (Below w.heap.size w w24) := HB.out.trans (b_.below (by omega) HB.out.size)
              replace HR : Hid (Rd w24 r s n c p7) := R_
              clear R_ b_ zr_
              cases f2
              case false =>
                go_wp2_with fail
                refine (once_any 10 (by omega) (by omega) HR).mono ?_
                rintro e w25 ⟨f3, p9, rfl, R_, b_⟩
                have zr_ : r < w24.heap.size := HR.out.1
                replace HC : Hid (IB gc 8 w25) := HC.out.beside b_ (by omega)
                replace HS : Hid (SwA (r + 1) w25 so M) := HS.out.beside b_ (by omega)
                replace HB : Hid (Below w.heap.size w w25) := HB.out.trans (b_.below (by omega) HB.out.size)
                replace HR : Hid (Rd w25 r s n c p9) := R_
                clear R_ b_ zr_
                cases f3
                case false =>
                  obtain ⟨V1, hV1⟩ := HS.out.row
                  obtain ⟨V2, hV2⟩ := HC.out.row
                  have BF := HB.out
                  go_wp2
                  refine bodyPost_ret (v := .tuple #[.slice so M co, .slice (some ⟨gc, 0, none⟩) 4 4]) (by first | (simp [results, Try.results23, go_sem]; done) | (simp [results, Try.results23, go_sem]; omega)) rfl ?_
                  unfold LifPost
                  exact ⟨so, M, co, V1, _, V2, rfl, hQ, hV1, hV2, BF⟩
                case true =>
                  by_cases hM0 : M = 0
                  case pos =>
                    have m0 : ¬ (0 : Int) < (M : Int) := by omega
                    obtain ⟨V1, hV1⟩ := HS.out.row
                    obtain ⟨V2, hV2⟩ := HC.out.row
                    have BF := HB.out
                    go_wp2
                    refine bodyPost_ret (v := .tuple #[.slice so M co, .slice (some ⟨gc, 0, none⟩) 4 4]) (by first | (simp [results, Try.results23, go_sem]; done) | (simp [results, Try.results23, go_sem]; omega)) rfl ?_
                    unfold LifPost
                    exact ⟨so, M, co, V1, _, V2, rfl, hQ, hV1, hV2, BF⟩
                  case neg =>
                    have m0 : (0 : Int) < (M : Int) := by omega
                    go_wp2_with fail
                    refine (below_any (M : Int) HR).mono ?_
                    rintro e w26 ⟨ix, p10, rfl, ix0, ix1, ix2, R_, b_⟩
                    have zr_ : r < w25.heap.size := HR.out.1
                    replace HC : Hid (IB gc 8 w26) := HC.out.beside b_ (by omega)
                    replace HS : Hid (SwA (r + 1) w26 so M) := HS.out.beside b_ (by omega)
                    replace HB : Hid (Below w.heap.size w w26) := HB.out.trans (b_.below (by omega) HB.out.size)
                    replace HR : Hid (Rd w26 r s n c p10) := R_
                    clear R_ b_ zr_
                    obtain ⟨xq, rfl⟩ : ∃ xq : Nat, ix = xq := ⟨ix.toNat, by omega⟩
                    have xM : xq < M := by omega
                    have xMi : (xq : Int) < (M : Int) := by omega
                    clear ix1 ix2
                    go_wp2_with fail
                    refine (off_any 1 2 (by omega) (by omega) (by omega) HR).mono ?_
                    rintro e w27 ⟨va, p11, rfl, va0, R_, b_⟩
                    have zr_ : r < w26.heap.size := HR.out.1
                    replace HC : Hid (IB gc 8 w27) := HC.out.beside b_ (by omega)
                    replace HS : Hid (SwA (r + 1) w27 so M) := HS.out.beside b_ (by omega)
                    replace HB : Hid (Below w.heap.size w w27) := HB.out.trans (b_.below (by omega) HB.out.size)
                    replace HR : Hid (Rd w27 r s n c p11) := R_
                    clear R_ b_ zr_
                    obtain ⟨g, rfl, gB, hI⟩ := HS.out (by omega)
                    have HI : Hid (IB g (M * 2) w27) := hI
                    have fz_ : w27.frozen? ⟨g, xq * 2 + 1, none⟩ = false := hI.2.1 _
                    obtain ⟨yo_, cz_⟩ := hI.2.2 (xq * 2 + 1) (by omega)
                    have gc9 := HSG.out g rfl (by omega)
                    clear hI
                    go_upto_region 21 with fail
                    obtain ⟨w28, hw_⟩ : ∃ x_, x_ = w27.setCell ⟨g, xq * 2 + 1, none⟩ (.int .i64 va) := ⟨_, rfl⟩
                    rw [← hw_]
                    have bs_ : Beside g w27 w28 := by rw [hw_]; exact Beside.setCell g _ _ _
                    replace HC : Hid (IB gc 8 w28) := HC.out.beside bs_ (by omega)
                    replace HI : Hid (IB g (M * 2) w28) := by show IB _ _ _; rw [hw_]; exact HI.out.set _ _
                    replace HS : Hid (SwA (r + 1) w28 (some ⟨g, 0, none⟩) M) := fun _ => ⟨g, rfl, gB, HI.out⟩
                    replace HB : Hid (Below w.heap.size w w28) := HB.out.trans (bs_.below (by omega) HB.out.size)
                    clear hw_ bs_ fz_ cz_ HI
                    obtain ⟨V1, hV1⟩ := HS.out.row
                    obtain ⟨V2, hV2⟩ := HC.out.row
                    have BF := HB.out
                    go_wp2
                    refine bodyPost_ret (v := .tuple #[.slice (some ⟨g, 0, none⟩) M co, .slice (some ⟨gc, 0, none⟩) 4 4]) (by first | (simp [results, Try.results23, go_sem]; done) | (simp [results, Try.results23, go_sem]; omega)) rfl ?_
                    unfold LifPost
                    exact ⟨_, M, co, V1, _, V2, rfl, hQ, hV1, hV2, BF⟩
              case true =>
                go_wp2_with fail
                refine (below_any 4 HR).mono ?_
                rintro e w29 ⟨ic, p8, rfl, ic0, ic1, ic2, R_, b_⟩
                have zr_ : r < w24.heap.size := HR.out.1
                replace HC : Hid (IB gc 8 w29) := HC.out.beside b_ (by omega)
                replace HS : Hid (SwA (r + 1) w29 so M) := HS.out.beside b_ (by omega)
                replace HB : Hid (Below w.heap.size w w29) := HB.out.trans (b_.below (by omega) HB.out.size)
                replace HR : Hid (Rd w29 r s n c p8) := R_
                clear R_ b_ zr_
                obtain ⟨cq, rfl⟩ : ∃ cq : Nat, ic = cq := ⟨ic.toNat, by omega⟩
                have c4 : cq < 4 := by omega
                have c4i : (cq : Int) < 4 := by omega
                clear ic1 ic2
                go_wp2_with fail
                refine (near_any (-2) 3 (by omega) (by omega) (by omega) HR).mono ?_
                rintro e w30 ⟨vc, p8b, rfl, vc0, vc1, R_, b_⟩
                have zr_ : r < w29.heap.size := HR.out.1
                replace HC : Hid (IB gc 8 w30) := HC.out.beside b_ (by omega)
                replace HS : Hid (SwA (r + 1) w30 so M) := HS.out.beside b_ (by omega)
                replace HB : Hid (Below w.heap.size w w30) := HB.out.trans (b_.below (by omega) HB.out.size)
                replace HR : Hid (Rd w30 r s n c p8b) := R_
                clear R_ b_ zr_
                have fz_ : w30.frozen? ⟨gc, cq * 2 + 1, none⟩ = false := HC.out.2.1 _
                obtain ⟨yo_, cz_⟩ := HC.out.2.2 (cq * 2 + 1) (by omega)
                go_upto_region 19 with fail
                obtain ⟨w31, hw_⟩ : ∃ x_, x_ = w30.setCell ⟨gc, cq * 2 + 1, none⟩ (.int .i64 vc) := ⟨_, rfl⟩
                rw [← hw_]
                have bs_ : Beside gc w30 w31 := by rw [hw_]; exact Beside.setCell gc _ _ _
                have zr_ : r < w30.heap.size := HR.out.1
                replace HC : Hid (IB gc 8 w31) := by show IB _ _ _; rw [hw_]; exact HC.out.set _ _
                replace HS : Hid (SwA (r + 1) w31 so M) := HS.out.apart bs_ (fun g e hm => by have := HSG.out g e hm; omega)
                replace HR : Hid (Rd w31 r s n c p8b) := Rd.below' HR.out (bs_.below (by omega) (by omega))
                replace HB : Hid (Below w.heap.size w w31) := HB.out.trans (bs_.below (by omega) HB.out.size)
                clear hw_ bs_ zr_ fz_ cz_
                go_wp2_with fail
                refine (once_any 10 (by omega) (by omega) HR).mono ?_
                rintro e w32 ⟨f3, p9, rfl, R_, b_⟩
                have zr_ : r < w31.heap.size := HR.out.1
                replace HC : Hid (IB gc 8 w32) := HC.out.beside b_ (by omega)
                replace HS : Hid (SwA (r + 1) w32 so M) := HS.out.beside b_ (by omega)
                replace HB : Hid (Below w.heap.size w w32) := HB.out.trans (b_.below (by omega) HB.out.size)
                replace HR : Hid (Rd w32 r s n c p9) := R_
                clear R_ b_ zr_
                cases f3
                case false =>
                  obtain ⟨V1, hV1⟩ := HS.out.row
                  obtain ⟨V2, hV2⟩ := HC.out.row
                  have BF := HB.out
                  go_wp2
                  refine bodyPost_ret (v := .tuple #[.slice so M co, .slice (some ⟨gc, 0, none⟩) 4 4]) (by first | (simp [results, Try.results23, go_sem]; done) | (simp [results, Try.results23, go_sem]; omega)) rfl ?_
                  unfold LifPost
                  exact ⟨so, M, co, V1, _, V2, rfl, hQ, hV1, hV2, BF⟩
                case true =>
                  by_cases hM0 : M = 0
                  case pos =>
                    have m0 : ¬ (0 : Int) < (M : Int) := by omega
                    obtain ⟨V1, hV1⟩ := HS.out.row
                    obtain ⟨V2, hV2⟩ := HC.out.row
                    have BF := HB.out
                    go_wp2
                    refine bodyPost_ret (v := .tuple #[.slice so M co, .slice (some ⟨gc, 0, none⟩) 4 4]) (by first | (simp [results, Try.results23, go_sem]; done) | (simp [results, Try.results23, go_sem]; omega)) rfl ?_
                    unfold LifPost
                    exact ⟨so, M, co, V1, _, V2, rfl, hQ, hV1, hV2, BF⟩
                  case neg =>
                    have m0 : (0 : Int) < (M : Int) := by omega
                    go_wp2_with fail
                    refine (below_any (M : Int) HR).mono ?_
                    rintro e w33 ⟨ix, p10, rfl, ix0, ix1, ix2, R_, b_⟩
                    have zr_ : r < w32.heap.size := HR.out.1
                    replace HC : Hid (IB gc 8 w33) := HC.out.beside b_ (by omega)
                    replace HS : Hid (SwA (r + 1) w33 so M) := HS.out.beside b_ (by omega)
                    replace HB : Hid (Below w.heap.size w w33) := HB.out.trans (b_.below (by omega) HB.out.size)
                    replace HR : Hid (Rd w33 r s n c p10) := R_
                    clear R_ b_ zr_
                    obtain ⟨xq, rfl⟩ : ∃ xq : Nat, ix = xq := ⟨ix.toNat, by omega⟩
                    have xM : xq < M := by omega
                    have xMi : (xq : Int) < (M : Int) := by omega
                    clear ix1 ix2
                    go_wp2_with fail
                    refine (off_any 1 2 (by omega) (by omega) (by omega) HR).mono ?_
                    rintro e w34 ⟨va, p11, rfl, va0, R_, b_⟩
                    have zr_ : r < w33.heap.size := HR.out.1
                    replace HC : Hid (IB gc 8 w34) := HC.out.beside b_ (by omega)
                    replace HS : Hid (SwA (r + 1) w34 so M) := HS.out.beside b_ (by omega)
                    replace HB : Hid (Below w.heap.size w w34) := HB.out.trans (b_.below (by omega) HB.out.size)
                    replace HR : Hid (Rd w34 r s n c p11) := R_
                    clear R_ b_ zr_
                    obtain ⟨g, rfl, gB, hI⟩ := HS.out (by omega)
                    have HI : Hid (IB g (M * 2) w34) := hI
                    have fz_ : w34.frozen? ⟨g, xq * 2 + 1, none⟩ = false := hI.2.1 _
                    obtain ⟨yo_, cz_⟩ := hI.2.2 (xq * 2 + 1) (by omega)
                    have gc9 := HSG.out g rfl (by omega)
                    clear hI
                    go_upto_region 21 with fail
                    obtain ⟨w35, hw_⟩ : ∃ x_, x_ = w34.setCell ⟨g, xq * 2 + 1, none⟩ (.int .i64 va) := ⟨_, rfl⟩
                    rw [← hw_]
                    have bs_ : Beside g w34 w35 := by rw [hw_]; exact Beside.setCell g _ _ _
                    replace HC : Hid (IB gc 8 w35) := HC.out.beside bs_ (by omega)
                    replace HI : Hid (IB g (M * 2) w35) := by show IB _ _ _; rw [hw_]; exact HI.out.set _ _
                    replace HS : Hid (SwA (r + 1) w35 (some ⟨g, 0, none⟩) M) := fun _ => ⟨g, rfl, gB, HI.out⟩
                    replace HB : Hid (Below w.heap.size w w35) := HB.out.trans (bs_.below (by omega) HB.out.size)
                    clear hw_ bs_ fz_ cz_ HI
                    obtain ⟨V1, hV1⟩ := HS.out.row
                    obtain ⟨V2, hV2⟩ := HC.out.row
                    have BF := HB.out
                    go_wp2
                    refine bodyPost_ret (v := .tuple #[.slice (some ⟨g, 0, none⟩) M co, .slice (some ⟨gc, 0, none⟩) 4 4]) (by first | (simp [results, Try.results23, go_sem]; done) | (simp [results, Try.results23, go_sem]; omega)) rfl ?_
                    unfold LifPost
                    exact ⟨_, M, co, V1, _, V2, rfl, hQ, hV1, hV2, BF⟩
end Go.Proofs.Ythengechoaodcaa
