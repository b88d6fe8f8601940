/-
What is proved: bytes that are spoilt are bytes, in memory of their own.
-/
import Derived.Test.YtkocbklkiehdiaaWfJ
import Derived.Test.YtkocbklkiehdiaaFrE
import Derived.Deep.DeepCutAuto
import Derived.Deep.RegionHeldLaw
import Derived.Test.YtkocbklkiehdiaaLkD
namespace Go.Proofs.Ytkocbklkiehdiaa
set_option maxRecDepth 40000

open Go.ChangeShapes Go.WideShapes Go.ChangeAt Go.RowKit
set_option linter.unusedVariables false
set_option linter.unusedSimpArgs false

theorem MadeY.cut {base g m cap k : Nat} {w : World} {l : List Int} (h : MadeY base w (.slice (some ⟨g, 0, none⟩) m cap) l) (hk : k ≤ l.length) : MadeY base w (.slice (some ⟨g, 0, none⟩) k cap) (l.take k) := by
  unfold MadeY at h ⊢
  have hl : (l.take k).length = k := by rw [List.length_take]; omega
  refine ⟨by rw [cellsY_length, Nat.mul_one], .inr ?_⟩
  rcases h.2 with ⟨h', _⟩ | ⟨g', cap', cur, h', hb, hg, hnc, hcm, hcs, htake⟩
  · simp at h'
  · simp only [Value.slice.injEq, Option.some.injEq, Addr.mk.injEq, and_true, true_and] at h'
    obtain ⟨rfl, -, rfl⟩ := h'
    refine ⟨g, cap, cur, by rw [hl], hb, hg, by rw [hl]; omega, hcm, hcs, ?_⟩
    rw [hl, Nat.mul_one]
    rw [Nat.mul_one] at htake
    have : cur.toList.take k = (cur.toList.take l.length).take k := by rw [List.take_take, Nat.min_eq_left hk]
    rw [this, htake]
    simp [cellsY]
theorem MadeY.put {base g m cap : Nat} {w : World} {l : List Int} (h : MadeY base w (.slice (some ⟨g, 0, none⟩) m cap) l) (i : Nat) (x : Int) : MadeY base (w.setCell ⟨g, i, none⟩ (.int .u8 x)) (.slice (some ⟨g, 0, none⟩) m cap) (l.set i x) := by
  obtain ⟨rfl, -⟩ := madeY_fin h
  unfold MadeY at h ⊢
  have := (h.stored i (.int .u8 x)).1
  rw [List.length_set]
  have e : cellsY (l.set i x) = (cellsY l).set i (.int .u8 x) := by simp [cellsY, List.map_set]
  rw [e]
  exact this
theorem MadeY.beside {base r : Nat} {w w' : World} {v : Value} {l : List Int} (h : MadeY base w v l) (hb : Beside r w w') (hr : r < base) : MadeY base w' v l := by
  refine own_same h fun g hg => hb.2.2.2.2 g (h.lt g hg).2 ?_
  have := (h.lt g hg).1
  omega
theorem MadeY.low {base base' : Nat} {w : World} {v : Value} {l : List Int} (h : MadeY base w v l) (hb : base' ≤ base) : MadeY base' w v l := by
  unfold MadeY at h ⊢
  refine ⟨h.1, ?_⟩
  rcases h.2 with q | ⟨g, cap, cur, h', hb', q⟩
  · exact .inl q
  · exact .inr ⟨g, cap, cur, h', by omega, q⟩
theorem made_at {base w : _} {sv : Option Addr} {m c : Nat} {l : List Int} (h : MadeY base w (.slice sv m c) l) (hm : 0 < m) : ∃ g, sv = some ⟨g, 0, none⟩ ∧ base ≤ g ∧ g < w.heap.size := by
  obtain ⟨rfl, O⟩ := madeY_fin h
  obtain ⟨b, e, hb, hz, -⟩ := O 0 hm
  exact ⟨b, e, hb, hz⟩
theorem made_cell {base g m c : Nat} {w : World} {l : List Int} (h : MadeY base w (.slice (some ⟨g, 0, none⟩) m c) l) {i : Nat} (hi : i < l.length) : w.cell? ⟨g, i, none⟩ = some (.int .u8 (nthI l i)) ∧ w.frozen? ⟨g, i, none⟩ = false ∧ g < w.heap.size := by
  obtain ⟨rfl, O⟩ := madeY_fin h
  obtain ⟨b, e, hb, hz, hc, hf⟩ := O i hi
  cases e
  exact ⟨hc, hf, hz⟩
theorem made_src {base g m c : Nat} {w : World} {l : List Int} (h : MadeY base w (.slice (some ⟨g, 0, none⟩) m c) l) : ∀ j x, l[j]? = some x → w.cell? ⟨g, j, none⟩ = some (.int .u8 x) := fun j x hx => by
  have hj : j < l.length := (List.getElem?_eq_some_iff.1 hx).1
  have e : nthI l j = x := by unfold nthI; rw [List.getD_eq_getElem?_getD, hx]; rfl
  rw [(made_cell h hj).1, e]
theorem byt_set {l : List Int} {i : Nat} {x : Int} (h : ∀ y ∈ l, Byt y) (hx : Byt x) : ∀ y ∈ l.set i x, Byt y := fun y hy => by
  rcases List.mem_or_eq_of_mem_set hy with q | q
  · exact h y q
  · rw [q]; exact hx
theorem byt_cat {l m : List Int} (h : ∀ y ∈ l, Byt y) (hm : ∀ y ∈ m, Byt y) : ∀ y ∈ l ++ m, Byt y := fun y hy => by
  rcases List.mem_append.1 hy with q | q
  · exact h y q
  · exact hm y q
theorem byt_take {l : List Int} {k : Nat} (h : ∀ y ∈ l, Byt y) : ∀ y ∈ l.take k, Byt y := fun y hy => h y (List.mem_of_mem_take hy)
theorem byt_xor {x : Int} {k : Nat} (hx : Byt x) (hk : k < 8) : Byt (bits BinOp.xor IntKind.u8 x (2 ^ k % 256)) := by
  have p : (2 : Int) ^ k % 256 = ((2 ^ k : Nat) : Int) := by
    rcases (by omega : k = 0 ∨ k = 1 ∨ k = 2 ∨ k = 3 ∨ k = 4 ∨ k = 5 ∨ k = 6 ∨ k = 7) with rfl | rfl | rfl | rfl | rfl | rfl | rfl | rfl <;> rfl
  have q : 2 ^ k < 256 := Nat.lt_of_lt_of_le (Nat.pow_lt_pow_right (by decide) hk) (by decide)
  rw [p]
  generalize 2 ^ k = P at q
  obtain ⟨a, rfl⟩ : ∃ a : Nat, x = (a : Int) := ⟨x.toNat, by have := hx.1; omega⟩
  have ha : a < 256 := by have := hx.2; omega
  have hx2 := Nat.xor_lt_two_pow (n := 8) ha q
  rw [u8_xor _ _ (by omega) (by omega) (by omega) (by omega), Int.toNat_natCast, Int.toNat_natCast]
  unfold Byt
  constructor
  · omega
  · have : ((a ^^^ P : Nat) : Int) < ((2 ^ 8 : Nat) : Int) := by exact_mod_cast hx2
    simpa using this
theorem own_src {base m : Nat} {g : Nat} {w : World} {l : List Int} (h : OwnY base w (some ⟨g, 0, none⟩) m (nthI l)) (hm : m = l.length) : ∀ j x, l[j]? = some x → w.cell? ⟨g, j, none⟩ = some (.int .u8 x) := fun j x hx => by
  have hj : j < l.length := (List.getElem?_eq_some_iff.1 hx).1
  have e : nthI l j = x := by unfold nthI; rw [List.getD_eq_getElem?_getD, hx]; rfl
  obtain ⟨b, e', hb, hz, hc, hf⟩ := h j (by omega)
  cases e'
  rw [hc, e]
theorem OwnY.belowS {base m : Nat} {w w' : World} {s : Option Addr} {V : Nat → Int} (h : OwnY base w s m V) (hb : Below w.heap.size w w') : OwnY base w' s m V := fun j hj => by
  obtain ⟨b, e, hB, hl, hc, hf⟩ := h j hj
  exact ⟨b, e, hB, Nat.lt_of_lt_of_le hl hb.size, (hb.cell (p := ⟨b, j, none⟩) hl).trans hc, (hb.frozen (p := ⟨b, j, none⟩) hl).trans hf⟩
def SpB (base : Nat) (w : World) (sv : Option Addr) (m cv : Nat) (L : List Int) : Prop := m = L.length ∧ m ≤ cv ∧ (sv = none ∨ ∃ b, sv = some ⟨b, 0, none⟩) ∧ OwnY base w sv m (nthI L)
theorem MadeY.sp {base base' m cv g : Nat} {w : World} {L : List Int} (h : MadeY base w (.slice (some ⟨g, 0, none⟩) m cv) L) (hb : base' ≤ base) : SpB base' w (some ⟨g, 0, none⟩) m cv L := by
  obtain ⟨rfl, O⟩ := madeY_fin h
  exact ⟨rfl, madeY_cap h, .inr ⟨g, rfl⟩, fun j hj => by
    obtain ⟨b, e, hB, q⟩ := O j hj
    exact ⟨b, e, by omega, q⟩⟩
def SpPost (r : Nat) (s : Option Addr) (n c base : Nat) (w : World) (e : Ending) (w' : World) : Prop := ∃ (sv : Option Addr) (m cv : Nat) (L : List Int) (p' : Nat), e = .returned (.slice sv m cv) ∧ SpB base w' sv m cv L ∧ L.length ≤ 1002 ∧ (∀ x ∈ L, Byt x) ∧ Rd w' r s n c p' ∧ Beside r w w'
set_option maxRecDepth 20000 in
set_option maxHeartbeats 8000000 in
theorem spoil_any {r : Nat} {s : Option Addr} {n c p base m cv : Nat} {sv : Option Addr} {w : World} {L : List Int} (h : Hid (Rd w r s n c p)) (HM0 : Hid (SpB base w sv m cv L)) (hrb : r < base) (hbw : base ≤ w.heap.size) (hl : L.length ≤ 1000) (HY : Hid (∀ x ∈ L, Byt x)) : Calls Try.prog 42 #[.pointer (some ⟨r, 0, none⟩), .slice sv m cv] w fun e w' => SpPost r s n c base w e w' := by
  have hml : m = L.length := HM0.out.1
  have hmc : m ≤ cv := HM0.out.2.1
  by_cases h2 : m < 2
  case pos =>
    have h2i : (m : Int) < 2 := by omega
    go_enter Try.func42, Try.ntmps42
    go_wp2
    go_ret
    exact ⟨sv, m, cv, L, p, rfl, HM0.out, by omega, HY.out, h.out, Beside.of (Below.refl _ _)⟩
  have h2i : ¬ (m : Int) < 2 := by omega
  obtain ⟨g0, rfl, hg0, zg0, -⟩ := HM0.out.2.2.2 0 (by omega)
  have HML : Hid (m = L.length) := hml
  have hm3 : m ≤ 1000 := by omega
  clear hml hl
  go_enter Try.func42, Try.ntmps42
  have HC0 := fun (W : World) (hb : Below w.heap.size w W) => own_src (HM0.out.2.2.2.belowS hb) HM0.out.1
  go_upto_region 4 with (refine list_bytes w.heap.size _ [] L g0 m cv _ _ (by rfl) (by rfl) (by rfl) (by rfl) HML.out.symm (by omega) (madeY_lit w (Nat.le_refl _) #[] [] (by simp) rfl) (by simp) (by simp) (by omega) (HC0 _ (below0 _ _)) ?_; intro g m1 c5 w5 M5 h5; have B5 : Below w.heap.size w w5 := Below.trans (below0 _ _) h5)
  rw [List.nil_append] at M5
  obtain rfl : m1 = m := (madeY_fin M5).1.trans HML.out.symm
  have c5l : m1 ≤ c5 := by rw [HML.out]; exact madeY_cap M5
  have HM : Hid (MadeY w.heap.size w5 (.slice (some ⟨g, 0, none⟩) m1 c5) L) := M5
  have HR : Hid (∃ q, Rd w5 r s n c q) := ⟨p, h.out.below B5⟩
  have HS : Hid (Beside r w w5) := Beside.of B5
  have zr0 : r < w.heap.size := h.out.1
  have zg : w.heap.size ≤ g := by obtain ⟨g_, e_, q_, -⟩ := made_at M5 (by omega); cases e_; exact q_
  clear M5 h5 B5 HC0 HM0 hg0 zg0 h
  obtain ⟨q0, R0⟩ := HR.out
  go_wp2_with fail
  refine (below_any (m1 : Int) R0).mono ?_
  rintro e w6 ⟨i9, p6, rfl, i0, -, i1, R1, b1⟩
  replace HM : Hid (MadeY w.heap.size w6 (.slice (some ⟨g, 0, none⟩) m1 c5) L) := HM.out.beside b1 zr0
  replace HS : Hid (Beside r w w6) := HS.out.trans b1
  replace HR : Hid (∃ q, Rd w6 r s n c q) := ⟨_, R1⟩
  clear R0 R1 b1
  obtain ⟨i, rfl⟩ : ∃ i : Nat, i9 = (i : Int) := ⟨i9.toNat, by omega⟩
  have il : i < m1 := by omega
  have il2 : (i : Int) < (m1 : Int) := by omega
  clear i0 i1
  obtain ⟨q0, R0⟩ := HR.out
  go_wp2_with fail
  refine (below_any 4 R0).mono ?_
  rintro e w7 ⟨k4, p7, rfl, k0, -, k1, R1, b1⟩
  replace HM : Hid (MadeY w.heap.size w7 (.slice (some ⟨g, 0, none⟩) m1 c5) L) := HM.out.beside b1 zr0
  replace HS : Hid (Beside r w w7) := HS.out.trans b1
  replace HR : Hid (∃ q, Rd w7 r s n c q) := ⟨_, R1⟩
  clear R0 R1 b1
  by_cases e0 : k4 = 0
  case pos =>
    subst e0
    go_upto_region 7 with fail
    refine wp_region_held_drew (S := fun w' => True) (by kernel_rfl) ?_ (fun hHeld => ?_)
    · trivial
    obtain ⟨v0, hv0⟩ : ∃ z, z = w7.drew := ⟨_, rfl⟩
    try rw [← hv0] at hHeld
    rw [← hv0]
    have bv0 : Below w7.heap.size w7 v0 := by rw [hv0]; exact Below.drew (Below.refl _ _)
    clear hv0
    replace HM : Hid (MadeY w.heap.size v0 (.slice (some ⟨g, 0, none⟩) m1 c5) L) := HM.out.below bv0
    replace HS : Hid (Beside r w v0) := HS.out.trans (Beside.of bv0)
    replace HR : Hid (∃ q, Rd v0 r s n c q) := by obtain ⟨q_, R_⟩ := HR.out; exact ⟨q_, R_.below bv0⟩
    clear bv0
    refine wpAnyH_take (i := 0) (v := .slice (some ⟨g, 0, none⟩) m1 c5) rfl (by kernel_rfl) (by kernel_rfl) (by kernel_rfl) (fun _ _ _ h => h) (Or.inl ⟨by kernel_rfl, ?_⟩) hHeld ?_
    · intro w' hSw
      first | (go_simp; done) | (go_simp; with_reducible rfl) | (go_simp; rw [IntKind.wrap_i64]; omega) | (go_simp; omega)
    simp only [Act.put, List.setIfInBounds_toArray, List.set_cons_zero, List.set_cons_succ]
    refine wpAnyH_take (i := 1) (v := .int .i64 i) rfl (by kernel_rfl) (by kernel_rfl) (by kernel_rfl) (fun _ _ _ h => h) (Or.inl ⟨by kernel_rfl, ?_⟩) hHeld ?_
    · intro w' hSw
      first | (go_simp; done) | (go_simp; with_reducible rfl) | (go_simp; rw [IntKind.wrap_i64]; omega) | (go_simp; omega)
    simp only [Act.put, List.setIfInBounds_toArray, List.set_cons_zero, List.set_cons_succ]
    refine wpAnyH_take (i := 2) (v := .slice (some ⟨g, 0, none⟩) m1 c5) rfl (by kernel_rfl) (by kernel_rfl) (by kernel_rfl) (fun _ _ _ h => h) (Or.inl ⟨by kernel_rfl, ?_⟩) hHeld ?_
    · intro w' hSw
      first | (go_simp; done) | (go_simp; with_reducible rfl) | (go_simp; rw [IntKind.wrap_i64]; omega) | (go_simp; omega)
    simp only [Act.put, List.setIfInBounds_toArray, List.set_cons_zero, List.set_cons_succ]
    refine wpAnyH_take (i := 3) (v := .int .i64 i) rfl (by kernel_rfl) (by kernel_rfl) (by kernel_rfl) (fun _ _ _ h => h) (Or.inl ⟨by kernel_rfl, ?_⟩) hHeld ?_
    · intro w' hSw
      first | (go_simp; done) | (go_simp; with_reducible rfl) | (go_simp; rw [IntKind.wrap_i64]; omega) | (go_simp; omega)
    simp only [Act.put, List.setIfInBounds_toArray, List.set_cons_zero, List.set_cons_succ]
    refine wpAnyH_take (i := 4) (v := .pointer (some ⟨g, i, none⟩)) rfl (by kernel_rfl) (by kernel_rfl) (by kernel_rfl) (fun _ _ _ h => h) (Or.inl ⟨by kernel_rfl, ?_⟩) hHeld ?_
    · intro w' hSw
      first | (go_simp; done) | (go_simp; with_reducible rfl) | (go_simp; rw [IntKind.wrap_i64]; omega) | (go_simp; omega)
    simp only [Act.put, List.setIfInBounds_toArray, List.set_cons_zero, List.set_cons_succ]
    refine wpAnyH_take (i := 6) (v := .pointer (some ⟨r, 0, none⟩)) rfl (by kernel_rfl) (by kernel_rfl) (by kernel_rfl) (fun _ _ _ h => h) (Or.inl ⟨by kernel_rfl, ?_⟩) hHeld ?_
    · intro w' hSw
      first | (go_simp; done) | (go_simp; with_reducible rfl) | (go_simp; rw [IntKind.wrap_i64]; omega) | (go_simp; omega)
    simp only [Act.put, List.setIfInBounds_toArray, List.set_cons_zero, List.set_cons_succ]
    refine wpAnyH_ready (rs := [5, 7]) (by kernel_rfl) (by simp) ?_
    refine (AllReadyH.cons rfl (fun KK hK => ?_) (AllReadyH.cons rfl (fun KK hK => ?_) AllReadyH.nil))
    · obtain ⟨c_, f_, z_⟩ := made_cell HM.out (i := i) (by have := HML.out; omega)
      go_simp
      clear c_ f_ z_
      refine hK.out _ _ (trivial) (fun hHeld => ?_)
      clear hK KK
      refine wpAnyH_ready (rs := [7]) (by kernel_rfl) (by simp) ?_
      refine (AllReadyH.cons rfl (fun KK hK => ?_) AllReadyH.nil)
      obtain ⟨q0, R0⟩ := HR.out
      go_simp
      go_wp2_with (first | (go_at_call 41; refine (below_any 8 R0).mono ?_; rintro e v0_2 ⟨x9, p5, rfl, x0, -, x1, R5, b5⟩))
      replace HM : Hid (MadeY w.heap.size v0_2 (.slice (some ⟨g, 0, none⟩) m1 c5) L) := HM.out.beside b5 zr0
      replace HS : Hid (Beside r w v0_2) := HS.out.trans b5
      replace HR : Hid (∃ q, Rd v0_2 r s n c q) := ⟨_, R5⟩
      clear R5 b5 R0
      obtain ⟨k, rfl⟩ : ∃ k : Nat, x9 = (k : Int) := ⟨x9.toNat, by omega⟩
      have k8 : k < 8 := by omega
      have hwk : IntKind.u64.wrap (k : Int) = (k : Int) := by rcases (by omega : k = 0 ∨ k = 1 ∨ k = 2 ∨ k = 3 ∨ k = 4 ∨ k = 5 ∨ k = 6 ∨ k = 7) with rfl | rfl | rfl | rfl | rfl | rfl | rfl | rfl <;> rfl
      have hw8 : IntKind.u8.wrap ((2 : Int) ^ k) = 2 ^ k % 256 := by rcases (by omega : k = 0 ∨ k = 1 ∨ k = 2 ∨ k = 3 ∨ k = 4 ∨ k = 5 ∨ k = 6 ∨ k = 7) with rfl | rfl | rfl | rfl | rfl | rfl | rfl | rfl <;> rfl
      clear x0 x1
      refine hK.out _ _ (trivial) (fun hHeld => ?_)
      clear hK KK
      refine wpAnyH_take (i := 8) (v := .int .u64 k) rfl (by kernel_rfl) (by kernel_rfl) (by kernel_rfl) (fun _ _ _ h => h) (Or.inl ⟨by kernel_rfl, ?_⟩) hHeld ?_
      · intro w' hSw
        first | (go_simp; done) | (go_simp; exact hwk) | (go_simp; rw [hwk])
      simp only [Act.put, List.setIfInBounds_toArray, List.set_cons_zero, List.set_cons_succ]
      refine wpAnyH_take (i := 9) (v := .int .u8 (2 ^ k % 256)) rfl (by kernel_rfl) (by kernel_rfl) (by kernel_rfl) (fun _ _ _ h => h) (Or.inl ⟨by kernel_rfl, ?_⟩) hHeld ?_
      · intro w' hSw
        first | (go_simp; done) | (go_simp; exact hw8) | (go_simp; rw [hw8])
      simp only [Act.put, List.setIfInBounds_toArray, List.set_cons_zero, List.set_cons_succ]
      refine wpAnyH_take (i := 10) (v := .int .u8 (bits BinOp.xor IntKind.u8 (nthI L i) (2 ^ k % 256))) rfl (by kernel_rfl) (by kernel_rfl) (by kernel_rfl) (fun _ _ _ h => h) (Or.inl ⟨by kernel_rfl, ?_⟩) hHeld ?_
      · intro w' hSw
        first | (go_simp; done) | (go_simp; with_reducible rfl) | (go_simp; rw [IntKind.wrap_i64]; omega) | (go_simp; omega)
      simp only [Act.put, List.setIfInBounds_toArray, List.set_cons_zero, List.set_cons_succ]
      refine wpAnyH_take (i := 11) (v := .pointer (some ⟨g, i, none⟩)) rfl (by kernel_rfl) (by kernel_rfl) (by kernel_rfl) (fun _ _ _ h => h) (Or.inl ⟨by kernel_rfl, ?_⟩) hHeld ?_
      · intro w' hSw
        first | (go_simp; done) | (go_simp; with_reducible rfl) | (go_simp; rw [IntKind.wrap_i64]; omega) | (go_simp; omega)
      simp only [Act.put, List.setIfInBounds_toArray, List.set_cons_zero, List.set_cons_succ]
      refine wpAnyH_ready (rs := [12]) (by kernel_rfl) (by simp) ?_
      refine (AllReadyH.cons rfl (fun KK hK => ?_) AllReadyH.nil)
      obtain ⟨c_, f_, z_⟩ := made_cell HM.out (i := i) (by have := HML.out; omega)
      go_simp
      obtain ⟨v0_3, hv_⟩ : ∃ z, z = v0_2.setCell ⟨g, i, none⟩ (.int .u8 (bits BinOp.xor IntKind.u8 (nthI L i) (2 ^ k % 256))) := ⟨_, rfl⟩
      rw [← hv_]
      have b5 : Beside g v0_2 v0_3 := by rw [hv_]; exact Beside.setCell g _ _ _
      have HM2 : Hid (MadeY w.heap.size v0_3 (.slice (some ⟨g, 0, none⟩) m1 c5) (L.set i (bits BinOp.xor IntKind.u8 (nthI L i) (2 ^ k % 256)))) := by show MadeY _ _ _ _; rw [hv_]; exact HM.out.put i _
      have HS2 : Hid (Beside r w v0_3) := HS.out.onB (b5.below zg HS.out.2.2.2.1)
      have HR2 : Hid (∃ q, Rd v0_3 r s n c q) := by obtain ⟨q_, R_⟩ := HR.out; exact ⟨q_, Rd.below' R_ (b5.below (by omega) (by omega))⟩
      clear hv_ b5 c_ f_
      refine hK.out _ _ (trivial) (fun hHeld => ?_)
      clear hK KK
      refine wpAnyH_done (by kernel_rfl) ?_ _
      clear hHeld
      obtain ⟨qz, Rz⟩ := HR2.out
      go_wp2
      go_ret
      exact ⟨_, m1, c5, _, qz, rfl, HM2.out.sp hbw, by rw [List.length_set]; have := HML.out; omega, byt_set HY.out (byt_xor (nth_byt HY.out i (by have := HML.out; omega)) k8), Rz, HS2.out⟩
    · obtain ⟨q0, R0⟩ := HR.out
      go_simp
      go_wp2_with (first | (go_at_call 41; refine (below_any 8 R0).mono ?_; rintro e v0_4 ⟨x9, p5, rfl, x0, -, x1, R5, b5⟩))
      replace HM : Hid (MadeY w.heap.size v0_4 (.slice (some ⟨g, 0, none⟩) m1 c5) L) := HM.out.beside b5 zr0
      replace HS : Hid (Beside r w v0_4) := HS.out.trans b5
      replace HR : Hid (∃ q, Rd v0_4 r s n c q) := ⟨_, R5⟩
      clear R5 b5 R0
      obtain ⟨k, rfl⟩ : ∃ k : Nat, x9 = (k : Int) := ⟨x9.toNat, by omega⟩
      have k8 : k < 8 := by omega
      have hwk : IntKind.u64.wrap (k : Int) = (k : Int) := by rcases (by omega : k = 0 ∨ k = 1 ∨ k = 2 ∨ k = 3 ∨ k = 4 ∨ k = 5 ∨ k = 6 ∨ k = 7) with rfl | rfl | rfl | rfl | rfl | rfl | rfl | rfl <;> rfl
      have hw8 : IntKind.u8.wrap ((2 : Int) ^ k) = 2 ^ k % 256 := by rcases (by omega : k = 0 ∨ k = 1 ∨ k = 2 ∨ k = 3 ∨ k = 4 ∨ k = 5 ∨ k = 6 ∨ k = 7) with rfl | rfl | rfl | rfl | rfl | rfl | rfl | rfl <;> rfl
      clear x0 x1
      refine hK.out _ _ (trivial) (fun hHeld => ?_)
      clear hK KK
      refine wpAnyH_take (i := 8) (v := .int .u64 k) rfl (by kernel_rfl) (by kernel_rfl) (by kernel_rfl) (fun _ _ _ h => h) (Or.inl ⟨by kernel_rfl, ?_⟩) hHeld ?_
      · intro w' hSw
        first | (go_simp; done) | (go_simp; exact hwk) | (go_simp; rw [hwk])
      simp only [Act.put, List.setIfInBounds_toArray, List.set_cons_zero, List.set_cons_succ]
      refine wpAnyH_take (i := 9) (v := .int .u8 (2 ^ k % 256)) rfl (by kernel_rfl) (by kernel_rfl) (by kernel_rfl) (fun _ _ _ h => h) (Or.inl ⟨by kernel_rfl, ?_⟩) hHeld ?_
      · intro w' hSw
        first | (go_simp; done) | (go_simp; exact hw8) | (go_simp; rw [hw8])
      simp only [Act.put, List.setIfInBounds_toArray, List.set_cons_zero, List.set_cons_succ]
      refine wpAnyH_ready (rs := [5]) (by kernel_rfl) (by simp) ?_
      refine (AllReadyH.cons rfl (fun KK hK => ?_) AllReadyH.nil)
      obtain ⟨c_, f_, z_⟩ := made_cell HM.out (i := i) (by have := HML.out; omega)
      go_simp
      clear c_ f_ z_
      refine hK.out _ _ (trivial) (fun hHeld => ?_)
      clear hK KK
      refine wpAnyH_take (i := 10) (v := .int .u8 (bits BinOp.xor IntKind.u8 (nthI L i) (2 ^ k % 256))) rfl (by kernel_rfl) (by kernel_rfl) (by kernel_rfl) (fun _ _ _ h => h) (Or.inl ⟨by kernel_rfl, ?_⟩) hHeld ?_
      · intro w' hSw
        first | (go_simp; done) | (go_simp; with_reducible rfl) | (go_simp; rw [IntKind.wrap_i64]; omega) | (go_simp; omega)
      simp only [Act.put, List.setIfInBounds_toArray, List.set_cons_zero, List.set_cons_succ]
      refine wpAnyH_take (i := 11) (v := .pointer (some ⟨g, i, none⟩)) rfl (by kernel_rfl) (by kernel_rfl) (by kernel_rfl) (fun _ _ _ h => h) (Or.inl ⟨by kernel_rfl, ?_⟩) hHeld ?_
      · intro w' hSw
        first | (go_simp; done) | (go_simp; with_reducible rfl) | (go_simp; rw [IntKind.wrap_i64]; omega) | (go_simp; omega)
      simp only [Act.put, List.setIfInBounds_toArray, List.set_cons_zero, List.set_cons_succ]
      refine wpAnyH_ready (rs := [12]) (by kernel_rfl) (by simp) ?_
      refine (AllReadyH.cons rfl (fun KK hK => ?_) AllReadyH.nil)
      obtain ⟨c_, f_, z_⟩ := made_cell HM.out (i := i) (by have := HML.out; omega)
      go_simp
      obtain ⟨v0_6, hv_⟩ : ∃ z, z = v0_4.setCell ⟨g, i, none⟩ (.int .u8 (bits BinOp.xor IntKind.u8 (nthI L i) (2 ^ k % 256))) := ⟨_, rfl⟩
      rw [← hv_]
      have b5 : Beside g v0_4 v0_6 := by rw [hv_]; exact Beside.setCell g _ _ _
      have HM2 : Hid (MadeY w.heap.size v0_6 (.slice (some ⟨g, 0, none⟩) m1 c5) (L.set i (bits BinOp.xor IntKind.u8 (nthI L i) (2 ^ k % 256)))) := by show MadeY _ _ _ _; rw [hv_]; exact HM.out.put i _
      have HS2 : Hid (Beside r w v0_6) := HS.out.onB (b5.below zg HS.out.2.2.2.1)
      have HR2 : Hid (∃ q, Rd v0_6 r s n c q) := by obtain ⟨q_, R_⟩ := HR.out; exact ⟨q_, Rd.below' R_ (b5.below (by omega) (by omega))⟩
      clear hv_ b5 c_ f_
      refine hK.out _ _ (trivial) (fun hHeld => ?_)
      clear hK KK
      refine wpAnyH_done (by kernel_rfl) ?_ _
      clear hHeld
      obtain ⟨qz, Rz⟩ := HR2.out
      go_wp2
      go_ret
      exact ⟨_, m1, c5, _, qz, rfl, HM2.out.sp hbw, by rw [List.length_set]; have := HML.out; omega, byt_set HY.out (byt_xor (nth_byt HY.out i (by have := HML.out; omega)) k8), Rz, HS2.out⟩
  case neg =>
  have ne0 : (k4 == 0) = false := by simpa using e0
  by_cases e1 : k4 = 1
  case pos =>
    subst e1
    obtain ⟨qz, Rz⟩ := HR.out
    have ic : (i : Int) ≤ (c5 : Int) := by omega
    go_wp2
    go_ret
    exact ⟨some ⟨g, 0, none⟩, i, c5, L.take i, qz, rfl, (HM.out.cut (by have := HML.out; omega)).sp hbw, by rw [List.length_take]; omega, byt_take HY.out, Rz, HS.out⟩
  case neg =>
  have ne1 : (k4 == 1) = false := by simpa using e1
  by_cases e2 : k4 = 2
  case pos =>
    subst e2
    obtain ⟨q0, R0⟩ := HR.out
    go_wp2_with fail
    refine (below_any 256 R0).mono ?_
    rintro e w8 ⟨x9, p8, rfl, x0, -, x1, R1, b1⟩
    replace HM : Hid (MadeY w.heap.size w8 (.slice (some ⟨g, 0, none⟩) m1 c5) L) := HM.out.beside b1 zr0
    replace HS : Hid (Beside r w w8) := HS.out.trans b1
    have HR8 : Hid (Rd w8 r s n c p8) := R1
    clear R0 R1 b1 HR
    have x2 : x9 < 256 := by omega
    have xm : x9 % 256 = x9 := by omega
    have sz8 : w.heap.size ≤ w8.heap.size := HS.out.2.2.2.1
    have HMa : Hid (MadeY w.heap.size (w8.alloc (.cells #[.int .u8 x9] 5)) (.slice (some ⟨g, 0, none⟩) m1 c5) L) := HM.out.below (below0 _ _)
    go_upto_region 15 with (refine list_bytes w.heap.size _ L [x9] w8.heap.size 1 1 _ _ (by rfl) (by rfl) (by rfl) (by rfl) rfl (by decide) HMa.out (by simp; omega) (by have := HML.out; omega) (by decide) (one_get (by first | (simp; done) | (simp [go_sem]; done))) ?_; intro g9 m9 c9 w9 M9 h9; have B9 : Below w.heap.size w8 w9 := Below.trans (Below.mono (B := w8.heap.size) (below0 _ _) sz8) h9)
    have HM9 : Hid (MadeY w.heap.size w9 (.slice (some ⟨g9, 0, none⟩) m9 c9) (L ++ [x9])) := M9
    have HS9 : Hid (Beside r w w9) := HS.out.onB B9
    have HR9 : Hid (Rd w9 r s n c p8) := Rd.below' HR8.out (B9.mono (by omega))
    clear M9 h9 B9 HMa
    go_wp2
    go_ret
    exact ⟨some ⟨g9, 0, none⟩, m9, c9, L ++ [x9], p8, rfl, HM9.out.sp hbw, by rw [List.length_append]; simp; have := HML.out; omega, byt_cat HY.out (fun y hy => by rw [List.mem_singleton.1 hy]; exact ⟨x0, x2⟩), HR9.out, HS9.out⟩
  case neg =>
  have ne2 : (k4 == 2) = false := by simpa using e2
  by_cases e3 : k4 = 3
  case pos =>
    subst e3
    obtain ⟨q0, R0⟩ := HR.out
    go_wp2_with fail
    refine (below_any 256 R0).mono ?_
    rintro e w8 ⟨x9, p8, rfl, x0, -, x1, R1, b1⟩
    replace HM : Hid (MadeY w.heap.size w8 (.slice (some ⟨g, 0, none⟩) m1 c5) L) := HM.out.beside b1 zr0
    replace HS : Hid (Beside r w w8) := HS.out.trans b1
    have HR8 : Hid (Rd w8 r s n c p8) := R1
    clear R0 R1 b1 HR
    have x2 : x9 < 256 := by omega
    have xm : x9 % 256 = x9 := by omega
    obtain ⟨c_, f_, z_⟩ := made_cell HM.out (i := i) (by have := HML.out; omega)
    go_upto_region 14 with fail
    obtain ⟨w9, hw9⟩ : ∃ z, z = w8.setCell ⟨g, i, none⟩ (.int .u8 x9) := ⟨_, rfl⟩
    try rw [← hw9]
    have s9 : Beside g w8 w9 := by rw [hw9]; exact Beside.setCell g _ _ _
    obtain ⟨L9, hL9⟩ : ∃ z, z = L.set i x9 := ⟨_, rfl⟩
    have HM9 : Hid (MadeY w.heap.size w9 (.slice (some ⟨g, 0, none⟩) m1 c5) L9) := by show MadeY _ _ _ _; rw [hw9, hL9]; exact HM.out.put i x9
    have HL9 : Hid (L9.length = m1) := by show _ = _; rw [hL9, List.length_set]; exact HML.out.symm
    have HY9 : Hid (∀ y ∈ L9, Byt y) := by rw [hL9]; exact byt_set HY.out ⟨x0, x2⟩
    have HS9 : Hid (Beside r w w9) := HS.out.onB (s9.below zg HS.out.2.2.2.1)
    have HR9 : Hid (Rd w9 r s n c p8) := Rd.below' HR8.out (s9.below (by omega) (by omega))
    clear hw9 s9 hL9 HM HS HR8 c_ f_ z_ HY
    refine wp_region_held_drew (S := fun w' => True) (by kernel_rfl) ?_ (fun hHeld => ?_)
    · trivial
    obtain ⟨v0, hv0⟩ : ∃ z, z = w9.drew := ⟨_, rfl⟩
    try rw [← hv0] at hHeld
    rw [← hv0]
    have bv0 : Below w9.heap.size w9 v0 := by rw [hv0]; exact Below.drew (Below.refl _ _)
    clear hv0
    replace HM9 : Hid (MadeY w.heap.size v0 (.slice (some ⟨g, 0, none⟩) m1 c5) L9) := HM9.out.below bv0
    replace HS9 : Hid (Beside r w v0) := HS9.out.trans (Beside.of bv0)
    replace HR9 : Hid (Rd v0 r s n c p8) := HR9.out.below bv0
    have HCT : Hid (∀ W : World, W = v0 → MadeY w.heap.size W (.slice (some ⟨g, 0, none⟩) (m1 - 2) c5) (L9.take (m1 - 2))) := fun W e => by rw [e]; exact HM9.out.cut (by have := HL9.out; omega)
    obtain ⟨SM, hSM⟩ : ∃ z, z = sumL (L9.take (m1 - 2)) := ⟨_, rfl⟩
    have HSM : Hid (SM = sumL (L9.take (m1 - 2))) := hSM
    have sb : 0 ≤ SM ∧ SM ≤ 65535 := by rw [hSM]; exact sumL_lt (byt_take HY9.out)
    have m2 : ((m1 : Int) - 2).toNat = m1 - 2 := by omega
    have m3 : (0 : Int) ≤ (m1 : Int) - 2 := by omega
    have m4 : (m1 : Int) - 2 ≤ (c5 : Int) := by omega
    clear bv0 hSM
    refine wpAnyH_take (i := 0) (v := .slice (some ⟨g, 0, none⟩) m1 c5) rfl (by kernel_rfl) (by kernel_rfl) (by kernel_rfl) (fun _ _ _ h => h) (Or.inl ⟨by kernel_rfl, ?_⟩) hHeld ?_
    · intro w' hSw
      first | (go_simp; done) | (go_simp; with_reducible rfl) | (go_simp; rw [IntKind.wrap_i64]; omega) | (go_simp; omega)
    simp only [Act.put, List.setIfInBounds_toArray, List.set_cons_zero, List.set_cons_succ]
    refine wpAnyH_take (i := 1) (v := .slice (some ⟨g, 0, none⟩) m1 c5) rfl (by kernel_rfl) (by kernel_rfl) (by kernel_rfl) (fun _ _ _ h => h) (Or.inl ⟨by kernel_rfl, ?_⟩) hHeld ?_
    · intro w' hSw
      first | (go_simp; done) | (go_simp; with_reducible rfl) | (go_simp; rw [IntKind.wrap_i64]; omega) | (go_simp; omega)
    simp only [Act.put, List.setIfInBounds_toArray, List.set_cons_zero, List.set_cons_succ]
    refine wpAnyH_take (i := 2) (v := .int .i64 m1) rfl (by kernel_rfl) (by kernel_rfl) (by kernel_rfl) (fun _ _ _ h => h) (Or.inl ⟨by kernel_rfl, ?_⟩) hHeld ?_
    · intro w' hSw
      first | (go_simp; done) | (go_simp; with_reducible rfl) | (go_simp; rw [IntKind.wrap_i64]; omega) | (go_simp; omega)
    simp only [Act.put, List.setIfInBounds_toArray, List.set_cons_zero, List.set_cons_succ]
    refine wpAnyH_take (i := 3) (v := .int .i64 ((m1 : Int) - 2)) rfl (by kernel_rfl) (by kernel_rfl) (by kernel_rfl) (fun _ _ _ h => h) (Or.inl ⟨by kernel_rfl, ?_⟩) hHeld ?_
    · intro w' hSw
      first | (go_simp; done) | (go_simp; with_reducible rfl) | (go_simp; rw [IntKind.wrap_i64]; omega) | (go_simp; omega)
    simp only [Act.put, List.setIfInBounds_toArray, List.set_cons_zero, List.set_cons_succ]
    refine wpAnyH_take (i := 4) (v := .slice (some ⟨g, 0, none⟩) (m1 - 2) c5) rfl (by kernel_rfl) (by kernel_rfl) (by kernel_rfl) (fun _ _ _ h => h) (Or.inl ⟨by kernel_rfl, ?_⟩) hHeld ?_
    · intro w' hSw
      first | (go_simp; done) | (go_simp; with_reducible rfl) | (go_simp; rw [IntKind.wrap_i64]; omega) | (go_simp; omega)
    simp only [Act.put, List.setIfInBounds_toArray, List.set_cons_zero, List.set_cons_succ]
    refine wpAnyH_take (i := 5) (v := .slice (some ⟨g, 0, none⟩) m1 c5) rfl (by kernel_rfl) (by kernel_rfl) (by kernel_rfl) (fun _ _ _ h => h) (Or.inl ⟨by kernel_rfl, ?_⟩) hHeld ?_
    · intro w' hSw
      first | (go_simp; done) | (go_simp; with_reducible rfl) | (go_simp; rw [IntKind.wrap_i64]; omega) | (go_simp; omega)
    simp only [Act.put, List.setIfInBounds_toArray, List.set_cons_zero, List.set_cons_succ]
    refine wpAnyH_take (i := 6) (v := .slice (some ⟨g, 0, none⟩) m1 c5) rfl (by kernel_rfl) (by kernel_rfl) (by kernel_rfl) (fun _ _ _ h => h) (Or.inl ⟨by kernel_rfl, ?_⟩) hHeld ?_
    · intro w' hSw
      first | (go_simp; done) | (go_simp; with_reducible rfl) | (go_simp; rw [IntKind.wrap_i64]; omega) | (go_simp; omega)
    simp only [Act.put, List.setIfInBounds_toArray, List.set_cons_zero, List.set_cons_succ]
    refine wpAnyH_take (i := 7) (v := .int .i64 m1) rfl (by kernel_rfl) (by kernel_rfl) (by kernel_rfl) (fun _ _ _ h => h) (Or.inl ⟨by kernel_rfl, ?_⟩) hHeld ?_
    · intro w' hSw
      first | (go_simp; done) | (go_simp; with_reducible rfl) | (go_simp; rw [IntKind.wrap_i64]; omega) | (go_simp; omega)
    simp only [Act.put, List.setIfInBounds_toArray, List.set_cons_zero, List.set_cons_succ]
    refine wpAnyH_take (i := 8) (v := .int .i64 ((m1 : Int) - 2)) rfl (by kernel_rfl) (by kernel_rfl) (by kernel_rfl) (fun _ _ _ h => h) (Or.inl ⟨by kernel_rfl, ?_⟩) hHeld ?_
    · intro w' hSw
      first | (go_simp; done) | (go_simp; with_reducible rfl) | (go_simp; rw [IntKind.wrap_i64]; omega) | (go_simp; omega)
    simp only [Act.put, List.setIfInBounds_toArray, List.set_cons_zero, List.set_cons_succ]
    refine wpAnyH_take (i := 9) (v := .slice (some ⟨g, 0, none⟩) (m1 - 2) c5) rfl (by kernel_rfl) (by kernel_rfl) (by kernel_rfl) (fun _ _ _ h => h) (Or.inl ⟨by kernel_rfl, ?_⟩) hHeld ?_
    · intro w' hSw
      first | (go_simp; done) | (go_simp; with_reducible rfl) | (go_simp; rw [IntKind.wrap_i64]; omega) | (go_simp; omega)
    simp only [Act.put, List.setIfInBounds_toArray, List.set_cons_zero, List.set_cons_succ]
    refine wpAnyH_ready (rs := [10]) (by kernel_rfl) (by simp) ?_
    refine (AllReadyH.cons rfl (fun KK hK => ?_) AllReadyH.nil)
    go_simp
    go_wp2_with (first | (go_at_call 50; refine (specSum_any w.heap.size g (m1 - 2) c5 (L9.take (m1 - 2)) _ (by rw [List.length_take]; omega) (byt_take HY9.out) (HCT.out _ rfl)).mono ?_; rintro e v0_1 ⟨rfl, hv_⟩; rw [← HSM.out]))
    subst hv_
    refine hK.out _ _ (trivial) (fun hHeld => ?_)
    clear hK KK
    refine wpAnyH_ready (rs := [11]) (by kernel_rfl) (by simp) ?_
    refine (AllReadyH.cons rfl (fun KK hK => ?_) AllReadyH.nil)
    go_simp
    go_wp2_with (first | (go_at_call 55; refine (l13Two_any w.heap.size (.slice (some ⟨g, 0, none⟩) (m1 - 2) c5) (L9.take (m1 - 2)) SM _ sb HS9.out.2.2.2.1 (by rw [List.length_take]; omega) (HCT.out _ rfl)).mono ?_; rintro e v0_2 ⟨g7, k7, c7, rfl, M7, B7⟩))
    have HM7 : Hid (MadeY w.heap.size v0_2 (.slice (some ⟨g7, 0, none⟩) k7 c7) (L9.take (m1 - 2) ++ [SM / 256, SM % 256])) := M7
    have HS7 : Hid (Beside r w v0_2) := HS9.out.onB B7
    have HR7 : Hid (Rd v0_2 r s n c p8) := Rd.below' HR9.out (B7.mono (by omega))
    clear M7 B7
    refine hK.out _ _ (trivial) (fun hHeld => ?_)
    clear hK KK
    refine wpAnyH_ready (rs := [12]) (by kernel_rfl) (by simp) ?_
    refine AllReadyH.cons rfl (fun KK hK => ?_) AllReadyH.nil
    go_simp
    refine hK.out _ _ hHeld (fun hHeld => ?_)
    clear hK KK
    refine wpAnyH_done (by kernel_rfl) ?_ _
    clear hHeld
    go_wp2
    go_ret
    exact ⟨some ⟨g7, 0, none⟩, k7, c7, _, p8, rfl, HM7.out.sp hbw, by rw [List.length_append, List.length_take]; simp; omega, byt_cat (byt_take HY9.out) (fun y hy => by
      simp only [List.mem_cons, List.not_mem_nil, or_false] at hy
      obtain ⟨s0, s1⟩ := sb
      rcases hy with rfl | rfl
      · constructor <;> omega
      · constructor <;> omega), HR7.out, HS7.out⟩
  case neg =>
  have ne3 : (k4 == 3) = false := by simpa using e3
  omega


open Go.ChangeShapes Go.WideShapes Go.ChangeAt Go.RowKit
set_option linter.unusedVariables false
set_option linter.unusedSimpArgs false

theorem wrL_byt (t q : Int) (n : Nat) (V : Nat → Int) : ∀ x ∈ wrL t q n V, Byt x := by
  unfold wrL
  split
  · next h =>
    obtain ⟨h1, h2, h3, h4⟩ := frame_parts h
    have hb := bodyL_byt n h1 h2 h3 h4
    obtain ⟨s0, s1⟩ := sumL_lt hb
    refine byt_cat hb fun y hy => ?_
    simp only [List.mem_cons, List.not_mem_nil, or_false] at hy
    rcases hy with rfl | rfl
    · constructor <;> omega
    · constructor <;> omega
  · intro x hx
    cases hx
theorem wrL_le (t q : Int) (n : Nat) (V : Nat → Int) : (wrL t q n V).length ≤ 1000 := by
  unfold wrL
  split
  · next h =>
    obtain ⟨h1, h2, h3, h4⟩ := frame_parts h
    rw [wholeL_len]
    omega
  · simp
theorem SpB.keepS {base base' r m cv : Nat} {w w' : World} {sv : Option Addr} {L : List Int} (h : SpB base w sv m cv L) (hb : Beside r w w') (hr : r < base) (hB : base' ≤ base) : SpB base' w' sv m cv L := ⟨h.1, h.2.1, h.2.2.1, (h.2.2.2.beside hb hr).mono hB⟩
theorem SpB.low {base base' m cv : Nat} {w : World} {sv : Option Addr} {L : List Int} (h : SpB base w sv m cv L) (hB : base' ≤ base) : SpB base' w sv m cv L := ⟨h.1, h.2.1, h.2.2.1, h.2.2.2.mono hB⟩
def DhPost (w : World) (e : Ending) (w' : World) : Prop := ∃ (t : Int) (hd : Bool) (q a l : Int) (tt : Option Addr) (m cc : Nat) (V : Nat → Int) (sv : Option Addr) (k cv : Nat) (L : List Int), e = .returned (.tuple #[.agg #[.int .i64 t, .bool hd, .int .i64 q, .int .i64 a, .int .i64 l, .slice tt m cc], .slice sv k cv]) ∧ m ≤ 21 ∧ RowI w' tt m V ∧ SpB w.heap.size w' sv k cv L ∧ L.length ≤ 1002 ∧ (∀ x ∈ L, Byt x) ∧ Below w.heap.size w w'
set_option maxRecDepth 20000 in
set_option maxHeartbeats 16000000 in
theorem drawHear_any {s : Option Addr} {n c : Nat} {w : World} (h : Hid (Code8 w s n)) : Calls Try.prog 9 #[.slice s n c] w fun e w' => DhPost w e w' := by
  have sto := store_slF
  go_enter Try.func9, Try.ntmps9
  go_upto_region 1 with fail
  obtain ⟨wa, hwa⟩ : ∃ z, z = w.alloc (.cells #[.int .i64 0, .bool false, .int .i64 0, .int .i64 0, .int .i64 0, .slice none 0 0] 26) := ⟨_, rfl⟩
  try rw [← hwa]
  obtain ⟨gq, hgq⟩ : ∃ z, z = w.heap.size := ⟨_, rfl⟩
  have ba : Below w.heap.size w wa := by rw [hwa]; exact below0 _ _
  have HQ : Hid (Blk wa gq [.int .i64 0, .bool false, .int .i64 0, .int .i64 0, .int .i64 0, .slice none 0 0]) := by rw [hwa, hgq]; exact Blk.new w #[.int .i64 0, .bool false, .int .i64 0, .int .i64 0, .int .i64 0, .slice none 0 0] _
  have HSa : Hid (Below w.heap.size w wa) := ba
  have hC : Hid (Code8 wa s n) := h.out.below ba
  have zqw : w.heap.size ≤ gq := by omega
  try rw [← hgq]
  clear hwa ba hgq h
  go_wp2_with fail
  refine (open_any hC.out).mono ?_
  rintro e w1 ⟨rfl, R_, b_⟩
  obtain ⟨r, hr⟩ : ∃ r, r = wa.heap.size := ⟨_, rfl⟩
  have HR : Hid (∃ q, Rd w1 r s n c q) := ⟨0, by rw [hr]; exact R_⟩
  have zqr : gq < r := by have := HQ.out.1; omega
  replace HQ : Hid (Blk w1 gq [.int .i64 0, .bool false, .int .i64 0, .int .i64 0, .int .i64 0, .slice none 0 0]) := HQ.out.below b_
  have HS : Hid (Below w.heap.size w w1) := HSa.out.trans (b_.mono HSa.out.size)
  try rw [← hr]
  clear R_ b_ hr HSa hC
  obtain ⟨q0, R0⟩ := HR.out
  go_wp2_with fail
  refine (link_any R0).mono ?_
  rintro e x1 hK
  unfold LnkPost at hK
  obtain ⟨t, hd, q, a, l, tt, m, cc, V, p1, rfl, m21, O1, R1, b1⟩ := hK
  have zr1 : r < w1.heap.size := R0.1
  have HO : Hid (OwnI (r + 1) x1 tt m V) := O1.mono (by omega)
  replace HQ : Hid (Blk x1 gq [.int .i64 0, .bool false, .int .i64 0, .int .i64 0, .int .i64 0, .slice none 0 0]) := HQ.out.beside b1 (by omega)
  replace HS : Hid (Below w.heap.size w x1) := HS.out.trans (b1.below (by omega) HS.out.size)
  replace HR : Hid (∃ q, Rd x1 r s n c q) := ⟨_, R1⟩
  clear R0 R1 b1 O1 zr1
  have HNHOgq : Hid (∀ g o, tt = some ⟨g, o, none⟩ → g ≠ gq ∨ m = 0) := own_above HO.out (by omega)
  go_upto_region 3 with fail
  obtain ⟨x2, hx2⟩ : ∃ z, z = x1.alloc (.cells #[.int .i64 t, .bool hd, .int .i64 q, .int .i64 a, .int .i64 l, .slice tt m cc] 26) := ⟨_, rfl⟩
  try rw [← hx2]
  obtain ⟨gl, hgl⟩ : ∃ z, z = x1.heap.size := ⟨_, rfl⟩
  have b2 : Below x1.heap.size x1 x2 := by rw [hx2]; exact below0 _ _
  have HL : Hid (Blk x2 gl [.int .i64 t, .bool hd, .int .i64 q, .int .i64 a, .int .i64 l, .slice tt m cc]) := by show Blk _ _ _; rw [hx2, hgl]; exact Blk.new x1 #[.int .i64 t, .bool hd, .int .i64 q, .int .i64 a, .int .i64 l, .slice tt m cc] _
  have zrl : r < gl := by obtain ⟨q_, R_⟩ := HR.out; have := R_.1; omega
  have HNHOgf : Hid (∀ gf, gl < gf → ∀ g o, tt = some ⟨g, o, none⟩ → g ≠ gf ∨ m = 0) := fun gf hf g o e => by
    rcases Nat.eq_zero_or_pos m with z | z
    · exact .inr z
    · obtain ⟨b', e', -, hz, -⟩ := HO.out 0 z
      rw [e] at e'; cases e'; left; omega
  replace HQ : Hid (Blk x2 gq [.int .i64 0, .bool false, .int .i64 0, .int .i64 0, .int .i64 0, .slice none 0 0]) := HQ.out.below b2
  replace HO : Hid (OwnI (r + 1) x2 tt m V) := HO.out.below b2
  replace HS : Hid (Below w.heap.size w x2) := HS.out.trans (b2.mono HS.out.size)
  replace HR : Hid (∃ q, Rd x2 r s n c q) := by obtain ⟨q_, R_⟩ := HR.out; exact ⟨q_, R_.below b2⟩
  try rw [← hgl]
  clear hx2 hgl b2
  obtain ⟨q0, R0⟩ := HR.out
  go_wp2_with fail
  refine (frame_any R0).mono ?_
  rintro e x3 ⟨t5, q5, tt5, m5, cc5, V5, p5, rfl, m51, O5, R5, b5⟩
  have z4 : gl < x2.heap.size := HL.out.1
  have HP : Hid (OwnI (gl + 1) x3 tt5 m5 V5) := O5.mono (by omega)
  replace HQ : Hid (Blk x3 gq [.int .i64 0, .bool false, .int .i64 0, .int .i64 0, .int .i64 0, .slice none 0 0]) := HQ.out.beside b5 (by omega)
  replace HL : Hid (Blk x3 gl [.int .i64 t, .bool hd, .int .i64 q, .int .i64 a, .int .i64 l, .slice tt m cc]) := HL.out.beside b5 (by omega)
  replace HO : Hid (OwnI (r + 1) x3 tt m V) := HO.out.beside b5 (by omega)
  replace HS : Hid (Below w.heap.size w x3) := HS.out.trans (b5.below (by omega) HS.out.size)
  replace HR : Hid (∃ q, Rd x3 r s n c q) := ⟨_, R5⟩
  clear R0 R5 b5 O5 z4
  go_upto_region 4 with fail
  obtain ⟨x4, hx4⟩ : ∃ z, z = x3.alloc (.cells #[.int .i64 t5, .int .i64 q5, .slice tt5 m5 cc5] 32) := ⟨_, rfl⟩
  try rw [← hx4]
  obtain ⟨gf, hgf⟩ : ∃ z, z = x3.heap.size := ⟨_, rfl⟩
  have b4 : Below x3.heap.size x3 x4 := by rw [hx4]; exact below0 _ _
  have HF : Hid (Blk x4 gf [.int .i64 t5, .int .i64 q5, .slice tt5 m5 cc5]) := by show Blk _ _ _; rw [hx4, hgf]; exact Blk.new x3 #[.int .i64 t5, .int .i64 q5, .slice tt5 m5 cc5] _
  have zlf : gl < gf := by have := HL.out.1; omega
  have HNHPgf : Hid (∀ g o, tt5 = some ⟨g, o, none⟩ → g ≠ gf ∨ m5 = 0) := fun g o e => by
    rcases Nat.eq_zero_or_pos m5 with z | z
    · exact .inr z
    · obtain ⟨b', e', -, hz, -⟩ := HP.out 0 z
      rw [e] at e'; cases e'; left; omega
  replace HQ : Hid (Blk x4 gq [.int .i64 0, .bool false, .int .i64 0, .int .i64 0, .int .i64 0, .slice none 0 0]) := HQ.out.below b4
  replace HL : Hid (Blk x4 gl [.int .i64 t, .bool hd, .int .i64 q, .int .i64 a, .int .i64 l, .slice tt m cc]) := HL.out.below b4
  replace HO : Hid (OwnI (r + 1) x4 tt m V) := HO.out.below b4
  replace HP : Hid (OwnI (gl + 1) x4 tt5 m5 V5) := HP.out.below b4
  replace HS : Hid (Below w.heap.size w x4) := HS.out.trans (b4.mono HS.out.size)
  replace HR : Hid (∃ q, Rd x4 r s n c q) := by obtain ⟨q_, R_⟩ := HR.out; exact ⟨q_, R_.below b4⟩
  try rw [← hgf]
  clear hx4 hgf b4
  replace HNHOgf : Hid (∀ g o, tt = some ⟨g, o, none⟩ → g ≠ gf ∨ m = 0) := HNHOgf.out gf zlf
  obtain ⟨q0, R0⟩ := HR.out
  go_wp2_with fail
  refine (once_any 5 (by omega) (by omega) R0).mono ?_
  rintro e x5 ⟨bo, p2, rfl, R1, b1⟩
  replace HQ : Hid (Blk x5 gq [.int .i64 0, .bool false, .int .i64 0, .int .i64 0, .int .i64 0, .slice none 0 0]) := HQ.out.beside b1 (by omega)
  replace HL : Hid (Blk x5 gl [.int .i64 t, .bool hd, .int .i64 q, .int .i64 a, .int .i64 l, .slice tt m cc]) := HL.out.beside b1 (by omega)
  replace HF : Hid (Blk x5 gf [.int .i64 t5, .int .i64 q5, .slice tt5 m5 cc5]) := HF.out.beside b1 (by omega)
  replace HO : Hid (OwnI (r + 1) x5 tt m V) := HO.out.beside b1 (by omega)
  replace HP : Hid (OwnI (gl + 1) x5 tt5 m5 V5) := HP.out.beside b1 (by omega)
  replace HS : Hid (Below w.heap.size w x5) := HS.out.trans (b1.below (by omega) HS.out.size)
  replace HR : Hid (∃ q, Rd x5 r s n c q) := ⟨_, R1⟩
  clear R0 R1 b1
  cases bo
  case true =>
    have d0 := HF.out.2.2 0 _ rfl
    have d1 := HF.out.2.2 1 _ rfl
    have d2 := HF.out.2.2 2 _ rfl
    go_wp2_with fail
    refine (specWriteC_any (t5) (q5) tt5 m5 cc5 V5 _ HP.out.row).mono ?_
    rintro e y1 ⟨sv, cv, rfl, OY, hcv, hst, by_⟩
    have zy_ : gf < x5.heap.size := HF.out.1
    obtain ⟨WL, hWL⟩ : ∃ z, z = wrL (t5) (q5) m5 V5 := ⟨_, rfl⟩
    rw [← hWL] at OY hcv ⊢
    have HSY : Hid (∀ x ∈ WL, Byt x) := by rw [hWL]; exact wrL_byt _ _ _ _
    have HSL0 : Hid (WL.length ≤ 1000) := by rw [hWL]; exact wrL_le _ _ _ _
    obtain ⟨wn, hwn⟩ : ∃ z, z = WL.length := ⟨_, rfl⟩
    rw [← hwn]
    have HSP : Hid (SpB (gf + 1) y1 sv wn cv WL) := ⟨hwn, by omega, hst, by rw [hwn]; exact OY.mono (by omega)⟩
    replace HQ : Hid (Blk y1 gq [.int .i64 0, .bool false, .int .i64 0, .int .i64 0, .int .i64 0, .slice none 0 0]) := HQ.out.below by_
    replace HL : Hid (Blk y1 gl [.int .i64 t, .bool hd, .int .i64 q, .int .i64 a, .int .i64 l, .slice tt m cc]) := HL.out.below by_
    replace HO : Hid (OwnI (r + 1) y1 tt m V) := HO.out.below by_
    replace HS : Hid (Below w.heap.size w y1) := HS.out.trans (by_.mono HS.out.size)
    replace HR : Hid (∃ q, Rd y1 r s n c q) := by obtain ⟨q_, R_⟩ := HR.out; exact ⟨q_, R_.below by_⟩
    clear by_ OY hcv hst hWL hwn d0 d1 d2 zy_ HF HP
    have HSL : Hid (WL.length ≤ 1002) := by have := HSL0.out; show _ ≤ _; omega
    obtain ⟨q0, R0⟩ := HR.out
    go_wp2_with fail
    refine (once_any 6 (by omega) (by omega) R0).mono ?_
    rintro e z1 ⟨bs, p7, rfl, R1, b1⟩
    replace HSP : Hid (SpB (gf + 1) z1 sv wn cv WL) := HSP.out.keepS b1 (by omega) (Nat.le_refl _)
    replace HQ : Hid (Blk z1 gq [.int .i64 0, .bool false, .int .i64 0, .int .i64 0, .int .i64 0, .slice none 0 0]) := HQ.out.beside b1 (by omega)
    replace HL : Hid (Blk z1 gl [.int .i64 t, .bool hd, .int .i64 q, .int .i64 a, .int .i64 l, .slice tt m cc]) := HL.out.beside b1 (by omega)
    replace HO : Hid (OwnI (r + 1) z1 tt m V) := HO.out.beside b1 (by omega)
    replace HS : Hid (Below w.heap.size w z1) := HS.out.trans (b1.below (by omega) HS.out.size)
    replace HR : Hid (∃ q, Rd z1 r s n c q) := ⟨_, R1⟩
    clear R0 R1 b1
    cases bs
    case false =>
      have l0 := HL.out.2.2 0 _ rfl
      have l1 := HL.out.2.2 1 _ rfl
      have l2 := HL.out.2.2 2 _ rfl
      have l3 := HL.out.2.2 3 _ rfl
      have l4 := HL.out.2.2 4 _ rfl
      have l5 := HL.out.2.2 5 _ rfl
      have g0 := HQ.out.2.2 0 _ rfl
      have f0 := HQ.out.2.1 0
      have g1 := HQ.out.2.2 1 _ rfl
      have f1 := HQ.out.2.1 1
      have g2 := HQ.out.2.2 2 _ rfl
      have f2 := HQ.out.2.1 2
      have g3 := HQ.out.2.2 3 _ rfl
      have f3 := HQ.out.2.1 3
      have g4 := HQ.out.2.2 4 _ rfl
      have f4 := HQ.out.2.1 4
      have g5 := HQ.out.2.2 5 _ rfl
      have f5 := HQ.out.2.1 5
      have zq_ := HQ.out.1
      have zl_ := HL.out.1
      have n_ : gl ≠ gq := by omega
      have BS := HS.out
      have sBS := BS.size
      have hrow : ∀ W2, Beside gq z1 W2 → RowI W2 tt m V := fun W2 hb => (OwnI.beside HO.out hb (by omega)).row
      have hsp : ∀ W2, Beside gq z1 W2 → SpB w.heap.size W2 sv wn cv WL := fun W2 hb => HSP.out.keepS hb (by omega) (by omega)
      go_wp2
      refine bodyPost_ret (v := .tuple #[.agg #[.int .i64 t, .bool hd, .int .i64 q, .int .i64 a, .int .i64 l, .slice tt m cc], .slice sv wn cv]) (by simp [results, Try.results9, go_sem, l0, l1, l2, l3, l4, l5, g0, g1, g2, g3, g4, g5, n_, n_.symm]) rfl ?_
      unfold DhPost
      exact ⟨t, hd, q, a, l, tt, m, cc, V, sv, wn, cv, WL, rfl, m21, hrow _ ((((((Beside.setCell gq _ 0 _).trans (Beside.setCell gq _ 1 _)).trans (Beside.setCell gq _ 2 _)).trans (Beside.setCell gq _ 3 _)).trans (Beside.setCell gq _ 4 _)).trans (Beside.setCell gq _ 5 _)), hsp _ ((((((Beside.setCell gq _ 0 _).trans (Beside.setCell gq _ 1 _)).trans (Beside.setCell gq _ 2 _)).trans (Beside.setCell gq _ 3 _)).trans (Beside.setCell gq _ 4 _)).trans (Beside.setCell gq _ 5 _)), HSL.out, HSY.out, (by repeat (first | with_reducible exact Below.refl _ _ | with_reducible exact BS | with_reducible refine Below.setCell ?_ (by first | omega | (simp; done) | (simp; omega)) _ | with_reducible refine bDrewN ?_ _ | with_reducible refine Below.drew ?_ | with_reducible refine Below.alloc ?_ (by first | omega | (simp; done) | (simp; omega)) _))⟩
    case true =>
      obtain ⟨q0, R0⟩ := HR.out
      have z7 : gl < z1.heap.size := HL.out.1
      go_wp2_with fail
      refine (spoil_any (base := gl + 1) R0 (HSP.out.low (by omega)) (by omega) (by omega) HSL0.out HSY).mono ?_
      rintro e v1 hK
      unfold SpPost at hK
      obtain ⟨sv2, m2, cv2, L2, p8, rfl, SP2, SL2, SY2, R1, b1⟩ := hK
      replace HQ : Hid (Blk v1 gq [.int .i64 0, .bool false, .int .i64 0, .int .i64 0, .int .i64 0, .slice none 0 0]) := HQ.out.beside b1 (by omega)
      replace HL : Hid (Blk v1 gl [.int .i64 t, .bool hd, .int .i64 q, .int .i64 a, .int .i64 l, .slice tt m cc]) := HL.out.beside b1 (by omega)
      replace HO : Hid (OwnI (r + 1) v1 tt m V) := HO.out.beside b1 (by omega)
      replace HS : Hid (Below w.heap.size w v1) := HS.out.trans (b1.below (by omega) HS.out.size)
      clear HSP HSL HSY HSL0 z7
      have HSP : Hid (SpB (gl + 1) v1 sv2 m2 cv2 L2) := SP2
      have HSL : Hid (L2.length ≤ 1002) := SL2
      have HSY : Hid (∀ x ∈ L2, Byt x) := SY2
      clear SP2 SL2 SY2 R0 R1 b1 HR
      have l0 := HL.out.2.2 0 _ rfl
      have l1 := HL.out.2.2 1 _ rfl
      have l2 := HL.out.2.2 2 _ rfl
      have l3 := HL.out.2.2 3 _ rfl
      have l4 := HL.out.2.2 4 _ rfl
      have l5 := HL.out.2.2 5 _ rfl
      have g0 := HQ.out.2.2 0 _ rfl
      have f0 := HQ.out.2.1 0
      have g1 := HQ.out.2.2 1 _ rfl
      have f1 := HQ.out.2.1 1
      have g2 := HQ.out.2.2 2 _ rfl
      have f2 := HQ.out.2.1 2
      have g3 := HQ.out.2.2 3 _ rfl
      have f3 := HQ.out.2.1 3
      have g4 := HQ.out.2.2 4 _ rfl
      have f4 := HQ.out.2.1 4
      have g5 := HQ.out.2.2 5 _ rfl
      have f5 := HQ.out.2.1 5
      have zq_ := HQ.out.1
      have zl_ := HL.out.1
      have n_ : gl ≠ gq := by omega
      have BS := HS.out
      have sBS := BS.size
      have hrow : ∀ W2, Beside gq v1 W2 → RowI W2 tt m V := fun W2 hb => (OwnI.beside HO.out hb (by omega)).row
      have hsp : ∀ W2, Beside gq v1 W2 → SpB w.heap.size W2 sv2 m2 cv2 L2 := fun W2 hb => HSP.out.keepS hb (by omega) (by omega)
      go_wp2
      refine bodyPost_ret (v := .tuple #[.agg #[.int .i64 t, .bool hd, .int .i64 q, .int .i64 a, .int .i64 l, .slice tt m cc], .slice sv2 m2 cv2]) (by simp [results, Try.results9, go_sem, l0, l1, l2, l3, l4, l5, g0, g1, g2, g3, g4, g5, n_, n_.symm]) rfl ?_
      unfold DhPost
      exact ⟨t, hd, q, a, l, tt, m, cc, V, sv2, m2, cv2, L2, rfl, m21, hrow _ ((((((Beside.setCell gq _ 0 _).trans (Beside.setCell gq _ 1 _)).trans (Beside.setCell gq _ 2 _)).trans (Beside.setCell gq _ 3 _)).trans (Beside.setCell gq _ 4 _)).trans (Beside.setCell gq _ 5 _)), hsp _ ((((((Beside.setCell gq _ 0 _).trans (Beside.setCell gq _ 1 _)).trans (Beside.setCell gq _ 2 _)).trans (Beside.setCell gq _ 3 _)).trans (Beside.setCell gq _ 4 _)).trans (Beside.setCell gq _ 5 _)), HSL.out, HSY.out, (by repeat (first | with_reducible exact Below.refl _ _ | with_reducible exact BS | with_reducible refine Below.setCell ?_ (by first | omega | (simp; done) | (simp; omega)) _ | with_reducible refine bDrewN ?_ _ | with_reducible refine Below.drew ?_ | with_reducible refine Below.alloc ?_ (by first | omega | (simp; done) | (simp; omega)) _))⟩
  case false =>
    have l0_ := HL.out.2.2 0 _ rfl
    have c_ := HF.out.2.2 0 _ rfl
    have f_ := HF.out.2.1 0
    have z_ := HF.out.1
    go_upto_region 6 with fail
    clear l0_ c_ f_ z_
    obtain ⟨x6, hw_⟩ : ∃ z, z = x5.setCell ⟨gf, 0, none⟩ (.int .i64 t) := ⟨_, rfl⟩
    try rw [← hw_]
    have bs_ : Beside gf x5 x6 := by rw [hw_]; exact Beside.setCell gf _ _ _
    have zr_ : r < x5.heap.size := by obtain ⟨q_, R_⟩ := HR.out; exact R_.1
    replace HQ : Hid (Blk x6 gq [.int .i64 0, .bool false, .int .i64 0, .int .i64 0, .int .i64 0, .slice none 0 0]) := HQ.out.beside bs_ (by omega)
    replace HL : Hid (Blk x6 gl [.int .i64 t, .bool hd, .int .i64 q, .int .i64 a, .int .i64 l, .slice tt m cc]) := HL.out.beside bs_ (by omega)
    replace HF : Hid (Blk x6 gf [.int .i64 t, .int .i64 q5, .slice tt5 m5 cc5]) := by show Blk _ _ _; rw [hw_]; exact HF.out.set 0 _
    replace HO : Hid (OwnI (r + 1) x6 tt m V) := own_offD HO.out bs_ HNHOgf.out
    replace HP : Hid (OwnI (gl + 1) x6 tt5 m5 V5) := own_offD HP.out bs_ HNHPgf.out
    replace HR : Hid (∃ q, Rd x6 r s n c q) := by obtain ⟨q_, R_⟩ := HR.out; exact ⟨q_, Rd.below' R_ (bs_.below (by omega) (by omega))⟩
    replace HS : Hid (Below w.heap.size w x6) := HS.out.trans (bs_.below (by omega) HS.out.size)
    clear hw_ bs_ zr_
    refine wp_region_held_drew (S := fun w' => w'.cell? ⟨gl, 2, none⟩ = some (.int .i64 q) ∧ gl < w'.heap.size) (by kernel_rfl) ?_ (fun hHeld => ?_)
    · exact ⟨HL.out.2.2 2 _ rfl, HL.out.1⟩
    obtain ⟨v0, hv0⟩ : ∃ z, z = x6.drew := ⟨_, rfl⟩
    try rw [← hv0] at hHeld
    rw [← hv0]
    have bv0 : Below x6.heap.size x6 v0 := by rw [hv0]; exact Below.drew (Below.refl _ _)
    clear hv0
    replace HQ : Hid (Blk v0 gq [.int .i64 0, .bool false, .int .i64 0, .int .i64 0, .int .i64 0, .slice none 0 0]) := HQ.out.below bv0
    replace HL : Hid (Blk v0 gl [.int .i64 t, .bool hd, .int .i64 q, .int .i64 a, .int .i64 l, .slice tt m cc]) := HL.out.below bv0
    replace HF : Hid (Blk v0 gf [.int .i64 t, .int .i64 q5, .slice tt5 m5 cc5]) := HF.out.below bv0
    replace HO : Hid (OwnI (r + 1) v0 tt m V) := HO.out.below bv0
    replace HP : Hid (OwnI (gl + 1) v0 tt5 m5 V5) := HP.out.below bv0
    replace HS : Hid (Below w.heap.size w v0) := HS.out.trans (bv0.mono HS.out.size)
    replace HR : Hid (∃ q, Rd v0 r s n c q) := by obtain ⟨q_, R_⟩ := HR.out; exact ⟨q_, R_.below bv0⟩
    clear bv0
    refine wpAnyH_take (i := 0) (v := .pointer (some ⟨gl, 2, none⟩)) rfl (by kernel_rfl) (by kernel_rfl) (by kernel_rfl) (fun _ _ _ h => h) (Or.inl ⟨by kernel_rfl, ?_⟩) hHeld ?_
    · intro w' hSw
      obtain ⟨hc0, hz0⟩ := hSw
      first | (go_simp; done) | (go_simp; with_reducible rfl) | (go_simp; rw [IntKind.wrap_i64]; omega) | (go_simp; omega)
    simp only [Act.put, List.setIfInBounds_toArray, List.set_cons_zero, List.set_cons_succ]
    refine wpAnyH_take (i := 1) (v := .int .i64 q) rfl (by kernel_rfl) (by kernel_rfl) (by kernel_rfl) (fun _ _ _ h => h) (Or.inl ⟨by kernel_rfl, ?_⟩) hHeld ?_
    · intro w' hSw
      obtain ⟨hc0, hz0⟩ := hSw
      first | (go_simp; done) | (go_simp; with_reducible rfl) | (go_simp; rw [IntKind.wrap_i64]; omega) | (go_simp; omega)
    simp only [Act.put, List.setIfInBounds_toArray, List.set_cons_zero, List.set_cons_succ]
    refine wpAnyH_take (i := 3) (v := .pointer (some ⟨r, 0, none⟩)) rfl (by kernel_rfl) (by kernel_rfl) (by kernel_rfl) (fun _ _ _ h => h) (Or.inl ⟨by kernel_rfl, ?_⟩) hHeld ?_
    · intro w' hSw
      obtain ⟨hc0, hz0⟩ := hSw
      first | (go_simp; done) | (go_simp; with_reducible rfl) | (go_simp; rw [IntKind.wrap_i64]; omega) | (go_simp; omega)
    simp only [Act.put, List.setIfInBounds_toArray, List.set_cons_zero, List.set_cons_succ]
    refine wpAnyH_ready (rs := [2, 4]) (by kernel_rfl) (by simp) ?_
    refine (AllReadyH.cons rfl (fun KK hK => ?_) (AllReadyH.cons rfl (fun KK hK => ?_) AllReadyH.nil))
    · go_simp
      obtain ⟨v0_1, hv_⟩ : ∃ z, z = v0.alloc (.cells #[.int .i64 0, .int .i64 1, .int .i64 2, .int .i64 9, .int .i64 32767, .int .i64 32768, .int .i64 65535, .int .i64 65530] 2) := ⟨_, rfl⟩
      rw [← hv_]
      obtain ⟨gk, hgk⟩ : ∃ z, z = v0.heap.size := ⟨_, rfl⟩
      have b5 : Below v0.heap.size v0 v0_1 := by rw [hv_]; exact below0 _ _
      have HK : Hid (Blk v0_1 gk ([0, 1, 2, 9, 32767, 32768, 65535, 65530].map (Value.int .i64))) := by rw [hv_, hgk]; exact Blk.new v0 #[.int .i64 0, .int .i64 1, .int .i64 2, .int .i64 9, .int .i64 32767, .int .i64 32768, .int .i64 65535, .int .i64 65530] _
      have zgk : gf < gk := by have := HF.out.1; omega
      replace HQ : Hid (Blk v0_1 gq [.int .i64 0, .bool false, .int .i64 0, .int .i64 0, .int .i64 0, .slice none 0 0]) := HQ.out.below b5
      replace HL : Hid (Blk v0_1 gl [.int .i64 t, .bool hd, .int .i64 q, .int .i64 a, .int .i64 l, .slice tt m cc]) := HL.out.below b5
      replace HF : Hid (Blk v0_1 gf [.int .i64 t, .int .i64 q5, .slice tt5 m5 cc5]) := HF.out.below b5
      replace HO : Hid (OwnI (r + 1) v0_1 tt m V) := HO.out.below b5
      replace HP : Hid (OwnI (gl + 1) v0_1 tt5 m5 V5) := HP.out.below b5
      replace HS : Hid (Below w.heap.size w v0_1) := HS.out.trans (b5.mono HS.out.size)
      replace HR : Hid (∃ q, Rd v0_1 r s n c q) := by obtain ⟨q_, R_⟩ := HR.out; exact ⟨q_, R_.below b5⟩
      try rw [← hgk]
      clear hv_ hgk b5
      refine hK.out _ _ (⟨HL.out.2.2 2 _ rfl, HL.out.1⟩) (fun hHeld => ?_)
      clear hK KK
      refine wpAnyH_ready (rs := [4]) (by kernel_rfl) (by simp) ?_
      refine (AllReadyH.cons rfl (fun KK hK => ?_) AllReadyH.nil)
      obtain ⟨q0, R0⟩ := HR.out
      go_simp
      go_wp2_with (first | (go_at_call 41; refine (below_any 8 R0).mono ?_; rintro e v0_2 ⟨k9, p5, rfl, k0, -, k1, R5, b5⟩))
      replace HQ : Hid (Blk v0_2 gq [.int .i64 0, .bool false, .int .i64 0, .int .i64 0, .int .i64 0, .slice none 0 0]) := HQ.out.beside b5 (by omega)
      replace HL : Hid (Blk v0_2 gl [.int .i64 t, .bool hd, .int .i64 q, .int .i64 a, .int .i64 l, .slice tt m cc]) := HL.out.beside b5 (by omega)
      replace HF : Hid (Blk v0_2 gf [.int .i64 t, .int .i64 q5, .slice tt5 m5 cc5]) := HF.out.beside b5 (by omega)
      replace HO : Hid (OwnI (r + 1) v0_2 tt m V) := HO.out.beside b5 (by omega)
      replace HP : Hid (OwnI (gl + 1) v0_2 tt5 m5 V5) := HP.out.beside b5 (by omega)
      replace HS : Hid (Below w.heap.size w v0_2) := HS.out.trans (b5.below (by omega) HS.out.size)
      replace HK : Hid (Blk v0_2 gk ([0, 1, 2, 9, 32767, 32768, 65535, 65530].map (Value.int .i64))) := HK.out.beside b5 (by omega)
      replace HR : Hid (∃ q, Rd v0_2 r s n c q) := ⟨_, R5⟩
      clear R5 b5 R0
      obtain ⟨j9, rfl⟩ : ∃ j : Nat, k9 = (j : Int) := ⟨k9.toNat, by omega⟩
      have j8 : j9 < 8 := by omega
      have j8i : (j9 : Int) < 8 := by omega
      clear k0 k1
      refine hK.out _ _ (⟨HL.out.2.2 2 _ rfl, HL.out.1⟩) (fun hHeld => ?_)
      clear hK KK
      refine wpAnyH_take (i := 5) (v := .pointer (some ⟨gk, j9, none⟩)) rfl (by kernel_rfl) (by kernel_rfl) (by kernel_rfl) (fun _ _ _ h => h) (Or.inl ⟨by kernel_rfl, ?_⟩) hHeld ?_
      · intro w' hSw
        obtain ⟨hc0, hz0⟩ := hSw
        first | (go_simp; done) | (go_simp; with_reducible rfl) | (go_simp; rw [IntKind.wrap_i64]; omega) | (go_simp; omega)
      simp only [Act.put, List.setIfInBounds_toArray, List.set_cons_zero, List.set_cons_succ]
      refine wpAnyH_ready (rs := [6]) (by kernel_rfl) (by simp) ?_
      refine (AllReadyH.cons rfl (fun KK hK => ?_) AllReadyH.nil)
      obtain ⟨jn, v9, ej, hj9, hc9, -⟩ := picked (w' := v0_2) (L := [0, 1, 2, 9, 32767, 32768, 65535, 65530]) HK.out (j := (j9 : Int)) (by omega) (by simp; omega)
      obtain rfl : jn = j9 := by omega
      have zk_ := HK.out.1
      go_simp
      obtain ⟨y7, hy7⟩ : ∃ y, IntKind.i64.wrap (q + v9) = y := ⟨_, rfl⟩
      obtain ⟨y8, hy8⟩ : ∃ y, y7.tmod 65536 = y := ⟨_, rfl⟩
      clear hc9 zk_
      refine hK.out _ _ (⟨HL.out.2.2 2 _ rfl, HL.out.1⟩) (fun hHeld => ?_)
      clear hK KK
      refine wpAnyH_take (i := 7) (v := .int .i64 y7) rfl (by kernel_rfl) (by kernel_rfl) (by kernel_rfl) (fun _ _ _ h => h) (Or.inl ⟨by kernel_rfl, ?_⟩) hHeld ?_
      · intro w' hSw
        obtain ⟨hc0, hz0⟩ := hSw
        first | (go_simp; done) | (go_simp; exact hy7) | (go_simp; rw [hy7]; done) | (rw [← hy7]; go_simp; done)
      simp only [Act.put, List.setIfInBounds_toArray, List.set_cons_zero, List.set_cons_succ]
      refine wpAnyH_take (i := 8) (v := .int .i64 y8) rfl (by kernel_rfl) (by kernel_rfl) (by kernel_rfl) (fun _ _ _ h => h) (Or.inl ⟨by kernel_rfl, ?_⟩) hHeld ?_
      · intro w' hSw
        obtain ⟨hc0, hz0⟩ := hSw
        first | (go_simp; done) | (go_simp; exact hy8) | (go_simp; rw [hy8]; done) | (rw [← hy8]; go_simp; done)
      simp only [Act.put, List.setIfInBounds_toArray, List.set_cons_zero, List.set_cons_succ]
      refine wpAnyH_take (i := 9) (v := .pointer (some ⟨gf, 1, none⟩)) rfl (by kernel_rfl) (by kernel_rfl) (by kernel_rfl) (fun _ _ _ h => h) (Or.inl ⟨by kernel_rfl, ?_⟩) hHeld ?_
      · intro w' hSw
        obtain ⟨hc0, hz0⟩ := hSw
        first | (go_simp; done) | (go_simp; with_reducible rfl) | (go_simp; rw [IntKind.wrap_i64]; omega) | (go_simp; omega)
      simp only [Act.put, List.setIfInBounds_toArray, List.set_cons_zero, List.set_cons_succ]
      refine wpAnyH_ready (rs := [10]) (by kernel_rfl) (by simp) ?_
      refine (AllReadyH.cons rfl (fun KK hK => ?_) AllReadyH.nil)
      have c_ := HF.out.2.2 1 _ rfl
      have f_ := HF.out.2.1 1
      have z_ := HF.out.1
      go_simp
      obtain ⟨v0_4, hw_⟩ : ∃ z, z = v0_2.setCell ⟨gf, 1, none⟩ (.int .i64 y8) := ⟨_, rfl⟩
      try rw [← hw_]
      have bs_ : Beside gf v0_2 v0_4 := by rw [hw_]; exact Beside.setCell gf _ _ _
      have zr_ : r < v0_2.heap.size := by obtain ⟨q_, R_⟩ := HR.out; exact R_.1
      replace HQ : Hid (Blk v0_4 gq [.int .i64 0, .bool false, .int .i64 0, .int .i64 0, .int .i64 0, .slice none 0 0]) := HQ.out.beside bs_ (by omega)
      replace HL : Hid (Blk v0_4 gl [.int .i64 t, .bool hd, .int .i64 q, .int .i64 a, .int .i64 l, .slice tt m cc]) := HL.out.beside bs_ (by omega)
      replace HF : Hid (Blk v0_4 gf [.int .i64 t, .int .i64 y8, .slice tt5 m5 cc5]) := by show Blk _ _ _; rw [hw_]; exact HF.out.set 1 _
      replace HO : Hid (OwnI (r + 1) v0_4 tt m V) := own_offD HO.out bs_ HNHOgf.out
      replace HP : Hid (OwnI (gl + 1) v0_4 tt5 m5 V5) := own_offD HP.out bs_ HNHPgf.out
      replace HR : Hid (∃ q, Rd v0_4 r s n c q) := by obtain ⟨q_, R_⟩ := HR.out; exact ⟨q_, Rd.below' R_ (bs_.below (by omega) (by omega))⟩
      replace HS : Hid (Below w.heap.size w v0_4) := HS.out.trans (bs_.below (by omega) HS.out.size)
      clear hw_ bs_ zr_
      clear c_ f_ z_
      refine hK.out _ _ (⟨HL.out.2.2 2 _ rfl, HL.out.1⟩) (fun hHeld => ?_)
      clear hK KK
      refine wpAnyH_done (by kernel_rfl) ?_ _
      clear hHeld
      clear HK
      have d0 := HF.out.2.2 0 _ rfl
      have d1 := HF.out.2.2 1 _ rfl
      have d2 := HF.out.2.2 2 _ rfl
      go_wp2_with fail
      refine (specWriteC_any (t) (y8) tt5 m5 cc5 V5 _ HP.out.row).mono ?_
      rintro e y2 ⟨sv, cv, rfl, OY, hcv, hst, by_⟩
      have zy_ : gf < v0_4.heap.size := HF.out.1
      obtain ⟨WL, hWL⟩ : ∃ z, z = wrL (t) (y8) m5 V5 := ⟨_, rfl⟩
      rw [← hWL] at OY hcv ⊢
      have HSY : Hid (∀ x ∈ WL, Byt x) := by rw [hWL]; exact wrL_byt _ _ _ _
      have HSL0 : Hid (WL.length ≤ 1000) := by rw [hWL]; exact wrL_le _ _ _ _
      obtain ⟨wn, hwn⟩ : ∃ z, z = WL.length := ⟨_, rfl⟩
      rw [← hwn]
      have HSP : Hid (SpB (gf + 1) y2 sv wn cv WL) := ⟨hwn, by omega, hst, by rw [hwn]; exact OY.mono (by omega)⟩
      replace HQ : Hid (Blk y2 gq [.int .i64 0, .bool false, .int .i64 0, .int .i64 0, .int .i64 0, .slice none 0 0]) := HQ.out.below by_
      replace HL : Hid (Blk y2 gl [.int .i64 t, .bool hd, .int .i64 q, .int .i64 a, .int .i64 l, .slice tt m cc]) := HL.out.below by_
      replace HO : Hid (OwnI (r + 1) y2 tt m V) := HO.out.below by_
      replace HS : Hid (Below w.heap.size w y2) := HS.out.trans (by_.mono HS.out.size)
      replace HR : Hid (∃ q, Rd y2 r s n c q) := by obtain ⟨q_, R_⟩ := HR.out; exact ⟨q_, R_.below by_⟩
      clear by_ OY hcv hst hWL hwn d0 d1 d2 zy_ HF HP
      have HSL : Hid (WL.length ≤ 1002) := by have := HSL0.out; show _ ≤ _; omega
      obtain ⟨q0, R0⟩ := HR.out
      go_wp2_with fail
      refine (once_any 6 (by omega) (by omega) R0).mono ?_
      rintro e z2 ⟨bs, p7, rfl, R1, b1⟩
      replace HSP : Hid (SpB (gf + 1) z2 sv wn cv WL) := HSP.out.keepS b1 (by omega) (Nat.le_refl _)
      replace HQ : Hid (Blk z2 gq [.int .i64 0, .bool false, .int .i64 0, .int .i64 0, .int .i64 0, .slice none 0 0]) := HQ.out.beside b1 (by omega)
      replace HL : Hid (Blk z2 gl [.int .i64 t, .bool hd, .int .i64 q, .int .i64 a, .int .i64 l, .slice tt m cc]) := HL.out.beside b1 (by omega)
      replace HO : Hid (OwnI (r + 1) z2 tt m V) := HO.out.beside b1 (by omega)
      replace HS : Hid (Below w.heap.size w z2) := HS.out.trans (b1.below (by omega) HS.out.size)
      replace HR : Hid (∃ q, Rd z2 r s n c q) := ⟨_, R1⟩
      clear R0 R1 b1
      cases bs
      case false =>
        have l0 := HL.out.2.2 0 _ rfl
        have l1 := HL.out.2.2 1 _ rfl
        have l2 := HL.out.2.2 2 _ rfl
        have l3 := HL.out.2.2 3 _ rfl
        have l4 := HL.out.2.2 4 _ rfl
        have l5 := HL.out.2.2 5 _ rfl
        have g0 := HQ.out.2.2 0 _ rfl
        have f0 := HQ.out.2.1 0
        have g1 := HQ.out.2.2 1 _ rfl
        have f1 := HQ.out.2.1 1
        have g2 := HQ.out.2.2 2 _ rfl
        have f2 := HQ.out.2.1 2
        have g3 := HQ.out.2.2 3 _ rfl
        have f3 := HQ.out.2.1 3
        have g4 := HQ.out.2.2 4 _ rfl
        have f4 := HQ.out.2.1 4
        have g5 := HQ.out.2.2 5 _ rfl
        have f5 := HQ.out.2.1 5
        have zq_ := HQ.out.1
        have zl_ := HL.out.1
        have n_ : gl ≠ gq := by omega
        have BS := HS.out
        have sBS := BS.size
        have hrow : ∀ W2, Beside gq z2 W2 → RowI W2 tt m V := fun W2 hb => (OwnI.beside HO.out hb (by omega)).row
        have hsp : ∀ W2, Beside gq z2 W2 → SpB w.heap.size W2 sv wn cv WL := fun W2 hb => HSP.out.keepS hb (by omega) (by omega)
        go_wp2
        refine bodyPost_ret (v := .tuple #[.agg #[.int .i64 t, .bool hd, .int .i64 q, .int .i64 a, .int .i64 l, .slice tt m cc], .slice sv wn cv]) (by simp [results, Try.results9, go_sem, l0, l1, l2, l3, l4, l5, g0, g1, g2, g3, g4, g5, n_, n_.symm]) rfl ?_
        unfold DhPost
        exact ⟨t, hd, q, a, l, tt, m, cc, V, sv, wn, cv, WL, rfl, m21, hrow _ ((((((Beside.setCell gq _ 0 _).trans (Beside.setCell gq _ 1 _)).trans (Beside.setCell gq _ 2 _)).trans (Beside.setCell gq _ 3 _)).trans (Beside.setCell gq _ 4 _)).trans (Beside.setCell gq _ 5 _)), hsp _ ((((((Beside.setCell gq _ 0 _).trans (Beside.setCell gq _ 1 _)).trans (Beside.setCell gq _ 2 _)).trans (Beside.setCell gq _ 3 _)).trans (Beside.setCell gq _ 4 _)).trans (Beside.setCell gq _ 5 _)), HSL.out, HSY.out, (by repeat (first | with_reducible exact Below.refl _ _ | with_reducible exact BS | with_reducible refine Below.setCell ?_ (by first | omega | (simp; done) | (simp; omega)) _ | with_reducible refine bDrewN ?_ _ | with_reducible refine Below.drew ?_ | with_reducible refine Below.alloc ?_ (by first | omega | (simp; done) | (simp; omega)) _))⟩
      case true =>
        obtain ⟨q0, R0⟩ := HR.out
        have z7 : gl < z2.heap.size := HL.out.1
        go_wp2_with fail
        refine (spoil_any (base := gl + 1) R0 (HSP.out.low (by omega)) (by omega) (by omega) HSL0.out HSY).mono ?_
        rintro e v2 hK
        unfold SpPost at hK
        obtain ⟨sv2, m2, cv2, L2, p8, rfl, SP2, SL2, SY2, R1, b1⟩ := hK
        replace HQ : Hid (Blk v2 gq [.int .i64 0, .bool false, .int .i64 0, .int .i64 0, .int .i64 0, .slice none 0 0]) := HQ.out.beside b1 (by omega)
        replace HL : Hid (Blk v2 gl [.int .i64 t, .bool hd, .int .i64 q, .int .i64 a, .int .i64 l, .slice tt m cc]) := HL.out.beside b1 (by omega)
        replace HO : Hid (OwnI (r + 1) v2 tt m V) := HO.out.beside b1 (by omega)
        replace HS : Hid (Below w.heap.size w v2) := HS.out.trans (b1.below (by omega) HS.out.size)
        clear HSP HSL HSY HSL0 z7
        have HSP : Hid (SpB (gl + 1) v2 sv2 m2 cv2 L2) := SP2
        have HSL : Hid (L2.length ≤ 1002) := SL2
        have HSY : Hid (∀ x ∈ L2, Byt x) := SY2
        clear SP2 SL2 SY2 R0 R1 b1 HR
        have l0 := HL.out.2.2 0 _ rfl
        have l1 := HL.out.2.2 1 _ rfl
        have l2 := HL.out.2.2 2 _ rfl
        have l3 := HL.out.2.2 3 _ rfl
        have l4 := HL.out.2.2 4 _ rfl
        have l5 := HL.out.2.2 5 _ rfl
        have g0 := HQ.out.2.2 0 _ rfl
        have f0 := HQ.out.2.1 0
        have g1 := HQ.out.2.2 1 _ rfl
        have f1 := HQ.out.2.1 1
        have g2 := HQ.out.2.2 2 _ rfl
        have f2 := HQ.out.2.1 2
        have g3 := HQ.out.2.2 3 _ rfl
        have f3 := HQ.out.2.1 3
        have g4 := HQ.out.2.2 4 _ rfl
        have f4 := HQ.out.2.1 4
        have g5 := HQ.out.2.2 5 _ rfl
        have f5 := HQ.out.2.1 5
        have zq_ := HQ.out.1
        have zl_ := HL.out.1
        have n_ : gl ≠ gq := by omega
        have BS := HS.out
        have sBS := BS.size
        have hrow : ∀ W2, Beside gq v2 W2 → RowI W2 tt m V := fun W2 hb => (OwnI.beside HO.out hb (by omega)).row
        have hsp : ∀ W2, Beside gq v2 W2 → SpB w.heap.size W2 sv2 m2 cv2 L2 := fun W2 hb => HSP.out.keepS hb (by omega) (by omega)
        go_wp2
        refine bodyPost_ret (v := .tuple #[.agg #[.int .i64 t, .bool hd, .int .i64 q, .int .i64 a, .int .i64 l, .slice tt m cc], .slice sv2 m2 cv2]) (by simp [results, Try.results9, go_sem, l0, l1, l2, l3, l4, l5, g0, g1, g2, g3, g4, g5, n_, n_.symm]) rfl ?_
        unfold DhPost
        exact ⟨t, hd, q, a, l, tt, m, cc, V, sv2, m2, cv2, L2, rfl, m21, hrow _ ((((((Beside.setCell gq _ 0 _).trans (Beside.setCell gq _ 1 _)).trans (Beside.setCell gq _ 2 _)).trans (Beside.setCell gq _ 3 _)).trans (Beside.setCell gq _ 4 _)).trans (Beside.setCell gq _ 5 _)), hsp _ ((((((Beside.setCell gq _ 0 _).trans (Beside.setCell gq _ 1 _)).trans (Beside.setCell gq _ 2 _)).trans (Beside.setCell gq _ 3 _)).trans (Beside.setCell gq _ 4 _)).trans (Beside.setCell gq _ 5 _)), HSL.out, HSY.out, (by repeat (first | with_reducible exact Below.refl _ _ | with_reducible exact BS | with_reducible refine Below.setCell ?_ (by first | omega | (simp; done) | (simp; omega)) _ | with_reducible refine bDrewN ?_ _ | with_reducible refine Below.drew ?_ | with_reducible refine Below.alloc ?_ (by first | omega | (simp; done) | (simp; omega)) _))⟩
    · obtain ⟨q0, R0⟩ := HR.out
      go_simp
      go_wp2_with (first | (go_at_call 41; refine (below_any 8 R0).mono ?_; rintro e v0_5 ⟨k9, p5, rfl, k0, -, k1, R5, b5⟩))
      replace HQ : Hid (Blk v0_5 gq [.int .i64 0, .bool false, .int .i64 0, .int .i64 0, .int .i64 0, .slice none 0 0]) := HQ.out.beside b5 (by omega)
      replace HL : Hid (Blk v0_5 gl [.int .i64 t, .bool hd, .int .i64 q, .int .i64 a, .int .i64 l, .slice tt m cc]) := HL.out.beside b5 (by omega)
      replace HF : Hid (Blk v0_5 gf [.int .i64 t, .int .i64 q5, .slice tt5 m5 cc5]) := HF.out.beside b5 (by omega)
      replace HO : Hid (OwnI (r + 1) v0_5 tt m V) := HO.out.beside b5 (by omega)
      replace HP : Hid (OwnI (gl + 1) v0_5 tt5 m5 V5) := HP.out.beside b5 (by omega)
      replace HS : Hid (Below w.heap.size w v0_5) := HS.out.trans (b5.below (by omega) HS.out.size)
      replace HR : Hid (∃ q, Rd v0_5 r s n c q) := ⟨_, R5⟩
      clear R5 b5 R0
      obtain ⟨j9, rfl⟩ : ∃ j : Nat, k9 = (j : Int) := ⟨k9.toNat, by omega⟩
      have j8 : j9 < 8 := by omega
      have j8i : (j9 : Int) < 8 := by omega
      clear k0 k1
      refine hK.out _ _ (⟨HL.out.2.2 2 _ rfl, HL.out.1⟩) (fun hHeld => ?_)
      clear hK KK
      refine wpAnyH_ready (rs := [2]) (by kernel_rfl) (by simp) ?_
      refine (AllReadyH.cons rfl (fun KK hK => ?_) AllReadyH.nil)
      go_simp
      obtain ⟨v0_6, hv_⟩ : ∃ z, z = v0_5.alloc (.cells #[.int .i64 0, .int .i64 1, .int .i64 2, .int .i64 9, .int .i64 32767, .int .i64 32768, .int .i64 65535, .int .i64 65530] 2) := ⟨_, rfl⟩
      rw [← hv_]
      obtain ⟨gk, hgk⟩ : ∃ z, z = v0_5.heap.size := ⟨_, rfl⟩
      have b5 : Below v0_5.heap.size v0_5 v0_6 := by rw [hv_]; exact below0 _ _
      have HK : Hid (Blk v0_6 gk ([0, 1, 2, 9, 32767, 32768, 65535, 65530].map (Value.int .i64))) := by rw [hv_, hgk]; exact Blk.new v0_5 #[.int .i64 0, .int .i64 1, .int .i64 2, .int .i64 9, .int .i64 32767, .int .i64 32768, .int .i64 65535, .int .i64 65530] _
      have zgk : gf < gk := by have := HF.out.1; omega
      replace HQ : Hid (Blk v0_6 gq [.int .i64 0, .bool false, .int .i64 0, .int .i64 0, .int .i64 0, .slice none 0 0]) := HQ.out.below b5
      replace HL : Hid (Blk v0_6 gl [.int .i64 t, .bool hd, .int .i64 q, .int .i64 a, .int .i64 l, .slice tt m cc]) := HL.out.below b5
      replace HF : Hid (Blk v0_6 gf [.int .i64 t, .int .i64 q5, .slice tt5 m5 cc5]) := HF.out.below b5
      replace HO : Hid (OwnI (r + 1) v0_6 tt m V) := HO.out.below b5
      replace HP : Hid (OwnI (gl + 1) v0_6 tt5 m5 V5) := HP.out.below b5
      replace HS : Hid (Below w.heap.size w v0_6) := HS.out.trans (b5.mono HS.out.size)
      replace HR : Hid (∃ q, Rd v0_6 r s n c q) := by obtain ⟨q_, R_⟩ := HR.out; exact ⟨q_, R_.below b5⟩
      try rw [← hgk]
      clear hv_ hgk b5
      refine hK.out _ _ (⟨HL.out.2.2 2 _ rfl, HL.out.1⟩) (fun hHeld => ?_)
      clear hK KK
      refine wpAnyH_take (i := 5) (v := .pointer (some ⟨gk, j9, none⟩)) rfl (by kernel_rfl) (by kernel_rfl) (by kernel_rfl) (fun _ _ _ h => h) (Or.inl ⟨by kernel_rfl, ?_⟩) hHeld ?_
      · intro w' hSw
        obtain ⟨hc0, hz0⟩ := hSw
        first | (go_simp; done) | (go_simp; with_reducible rfl) | (go_simp; rw [IntKind.wrap_i64]; omega) | (go_simp; omega)
      simp only [Act.put, List.setIfInBounds_toArray, List.set_cons_zero, List.set_cons_succ]
      refine wpAnyH_ready (rs := [6]) (by kernel_rfl) (by simp) ?_
      refine (AllReadyH.cons rfl (fun KK hK => ?_) AllReadyH.nil)
      obtain ⟨jn, v9, ej, hj9, hc9, -⟩ := picked (w' := v0_6) (L := [0, 1, 2, 9, 32767, 32768, 65535, 65530]) HK.out (j := (j9 : Int)) (by omega) (by simp; omega)
      obtain rfl : jn = j9 := by omega
      have zk_ := HK.out.1
      go_simp
      obtain ⟨y7, hy7⟩ : ∃ y, IntKind.i64.wrap (q + v9) = y := ⟨_, rfl⟩
      obtain ⟨y8, hy8⟩ : ∃ y, y7.tmod 65536 = y := ⟨_, rfl⟩
      clear hc9 zk_
      refine hK.out _ _ (⟨HL.out.2.2 2 _ rfl, HL.out.1⟩) (fun hHeld => ?_)
      clear hK KK
      refine wpAnyH_take (i := 7) (v := .int .i64 y7) rfl (by kernel_rfl) (by kernel_rfl) (by kernel_rfl) (fun _ _ _ h => h) (Or.inl ⟨by kernel_rfl, ?_⟩) hHeld ?_
      · intro w' hSw
        obtain ⟨hc0, hz0⟩ := hSw
        first | (go_simp; done) | (go_simp; exact hy7) | (go_simp; rw [hy7]; done) | (rw [← hy7]; go_simp; done)
      simp only [Act.put, List.setIfInBounds_toArray, List.set_cons_zero, List.set_cons_succ]
      refine wpAnyH_take (i := 8) (v := .int .i64 y8) rfl (by kernel_rfl) (by kernel_rfl) (by kernel_rfl) (fun _ _ _ h => h) (Or.inl ⟨by kernel_rfl, ?_⟩) hHeld ?_
      · intro w' hSw
        obtain ⟨hc0, hz0⟩ := hSw
        first | (go_simp; done) | (go_simp; exact hy8) | (go_simp; rw [hy8]; done) | (rw [← hy8]; go_simp; done)
      simp only [Act.put, List.setIfInBounds_toArray, List.set_cons_zero, List.set_cons_succ]
      refine wpAnyH_take (i := 9) (v := .pointer (some ⟨gf, 1, none⟩)) rfl (by kernel_rfl) (by kernel_rfl) (by kernel_rfl) (fun _ _ _ h => h) (Or.inl ⟨by kernel_rfl, ?_⟩) hHeld ?_
      · intro w' hSw
        obtain ⟨hc0, hz0⟩ := hSw
        first | (go_simp; done) | (go_simp; with_reducible rfl) | (go_simp; rw [IntKind.wrap_i64]; omega) | (go_simp; omega)
      simp only [Act.put, List.setIfInBounds_toArray, List.set_cons_zero, List.set_cons_succ]
      refine wpAnyH_ready (rs := [10]) (by kernel_rfl) (by simp) ?_
      refine (AllReadyH.cons rfl (fun KK hK => ?_) AllReadyH.nil)
      have c_ := HF.out.2.2 1 _ rfl
      have f_ := HF.out.2.1 1
      have z_ := HF.out.1
      go_simp
      obtain ⟨v0_8, hw_⟩ : ∃ z, z = v0_6.setCell ⟨gf, 1, none⟩ (.int .i64 y8) := ⟨_, rfl⟩
      try rw [← hw_]
      have bs_ : Beside gf v0_6 v0_8 := by rw [hw_]; exact Beside.setCell gf _ _ _
      have zr_ : r < v0_6.heap.size := by obtain ⟨q_, R_⟩ := HR.out; exact R_.1
      replace HQ : Hid (Blk v0_8 gq [.int .i64 0, .bool false, .int .i64 0, .int .i64 0, .int .i64 0, .slice none 0 0]) := HQ.out.beside bs_ (by omega)
      replace HL : Hid (Blk v0_8 gl [.int .i64 t, .bool hd, .int .i64 q, .int .i64 a, .int .i64 l, .slice tt m cc]) := HL.out.beside bs_ (by omega)
      replace HF : Hid (Blk v0_8 gf [.int .i64 t, .int .i64 y8, .slice tt5 m5 cc5]) := by show Blk _ _ _; rw [hw_]; exact HF.out.set 1 _
      replace HO : Hid (OwnI (r + 1) v0_8 tt m V) := own_offD HO.out bs_ HNHOgf.out
      replace HP : Hid (OwnI (gl + 1) v0_8 tt5 m5 V5) := own_offD HP.out bs_ HNHPgf.out
      replace HR : Hid (∃ q, Rd v0_8 r s n c q) := by obtain ⟨q_, R_⟩ := HR.out; exact ⟨q_, Rd.below' R_ (bs_.below (by omega) (by omega))⟩
      replace HS : Hid (Below w.heap.size w v0_8) := HS.out.trans (bs_.below (by omega) HS.out.size)
      clear hw_ bs_ zr_
      clear c_ f_ z_
      refine hK.out _ _ (⟨HL.out.2.2 2 _ rfl, HL.out.1⟩) (fun hHeld => ?_)
      clear hK KK
      refine wpAnyH_done (by kernel_rfl) ?_ _
      clear hHeld
      clear HK
      have d0 := HF.out.2.2 0 _ rfl
      have d1 := HF.out.2.2 1 _ rfl
      have d2 := HF.out.2.2 2 _ rfl
      go_wp2_with fail
      refine (specWriteC_any (t) (y8) tt5 m5 cc5 V5 _ HP.out.row).mono ?_
      rintro e y3 ⟨sv, cv, rfl, OY, hcv, hst, by_⟩
      have zy_ : gf < v0_8.heap.size := HF.out.1
      obtain ⟨WL, hWL⟩ : ∃ z, z = wrL (t) (y8) m5 V5 := ⟨_, rfl⟩
      rw [← hWL] at OY hcv ⊢
      have HSY : Hid (∀ x ∈ WL, Byt x) := by rw [hWL]; exact wrL_byt _ _ _ _
      have HSL0 : Hid (WL.length ≤ 1000) := by rw [hWL]; exact wrL_le _ _ _ _
      obtain ⟨wn, hwn⟩ : ∃ z, z = WL.length := ⟨_, rfl⟩
      rw [← hwn]
      have HSP : Hid (SpB (gf + 1) y3 sv wn cv WL) := ⟨hwn, by omega, hst, by rw [hwn]; exact OY.mono (by omega)⟩
      replace HQ : Hid (Blk y3 gq [.int .i64 0, .bool false, .int .i64 0, .int .i64 0, .int .i64 0, .slice none 0 0]) := HQ.out.below by_
      replace HL : Hid (Blk y3 gl [.int .i64 t, .bool hd, .int .i64 q, .int .i64 a, .int .i64 l, .slice tt m cc]) := HL.out.below by_
      replace HO : Hid (OwnI (r + 1) y3 tt m V) := HO.out.below by_
      replace HS : Hid (Below w.heap.size w y3) := HS.out.trans (by_.mono HS.out.size)
      replace HR : Hid (∃ q, Rd y3 r s n c q) := by obtain ⟨q_, R_⟩ := HR.out; exact ⟨q_, R_.below by_⟩
      clear by_ OY hcv hst hWL hwn d0 d1 d2 zy_ HF HP
      have HSL : Hid (WL.length ≤ 1002) := by have := HSL0.out; show _ ≤ _; omega
      obtain ⟨q0, R0⟩ := HR.out
      go_wp2_with fail
      refine (once_any 6 (by omega) (by omega) R0).mono ?_
      rintro e z3 ⟨bs, p7, rfl, R1, b1⟩
      replace HSP : Hid (SpB (gf + 1) z3 sv wn cv WL) := HSP.out.keepS b1 (by omega) (Nat.le_refl _)
      replace HQ : Hid (Blk z3 gq [.int .i64 0, .bool false, .int .i64 0, .int .i64 0, .int .i64 0, .slice none 0 0]) := HQ.out.beside b1 (by omega)
      replace HL : Hid (Blk z3 gl [.int .i64 t, .bool hd, .int .i64 q, .int .i64 a, .int .i64 l, .slice tt m cc]) := HL.out.beside b1 (by omega)
      replace HO : Hid (OwnI (r + 1) z3 tt m V) := HO.out.beside b1 (by omega)
      replace HS : Hid (Below w.heap.size w z3) := HS.out.trans (b1.below (by omega) HS.out.size)
      replace HR : Hid (∃ q, Rd z3 r s n c q) := ⟨_, R1⟩
      clear R0 R1 b1
      cases bs
      case false =>
        have l0 := HL.out.2.2 0 _ rfl
        have l1 := HL.out.2.2 1 _ rfl
        have l2 := HL.out.2.2 2 _ rfl
        have l3 := HL.out.2.2 3 _ rfl
        have l4 := HL.out.2.2 4 _ rfl
        have l5 := HL.out.2.2 5 _ rfl
        have g0 := HQ.out.2.2 0 _ rfl
        have f0 := HQ.out.2.1 0
        have g1 := HQ.out.2.2 1 _ rfl
        have f1 := HQ.out.2.1 1
        have g2 := HQ.out.2.2 2 _ rfl
        have f2 := HQ.out.2.1 2
        have g3 := HQ.out.2.2 3 _ rfl
        have f3 := HQ.out.2.1 3
        have g4 := HQ.out.2.2 4 _ rfl
        have f4 := HQ.out.2.1 4
        have g5 := HQ.out.2.2 5 _ rfl
        have f5 := HQ.out.2.1 5
        have zq_ := HQ.out.1
        have zl_ := HL.out.1
        have n_ : gl ≠ gq := by omega
        have BS := HS.out
        have sBS := BS.size
        have hrow : ∀ W2, Beside gq z3 W2 → RowI W2 tt m V := fun W2 hb => (OwnI.beside HO.out hb (by omega)).row
        have hsp : ∀ W2, Beside gq z3 W2 → SpB w.heap.size W2 sv wn cv WL := fun W2 hb => HSP.out.keepS hb (by omega) (by omega)
        go_wp2
        refine bodyPost_ret (v := .tuple #[.agg #[.int .i64 t, .bool hd, .int .i64 q, .int .i64 a, .int .i64 l, .slice tt m cc], .slice sv wn cv]) (by simp [results, Try.results9, go_sem, l0, l1, l2, l3, l4, l5, g0, g1, g2, g3, g4, g5, n_, n_.symm]) rfl ?_
        unfold DhPost
        exact ⟨t, hd, q, a, l, tt, m, cc, V, sv, wn, cv, WL, rfl, m21, hrow _ ((((((Beside.setCell gq _ 0 _).trans (Beside.setCell gq _ 1 _)).trans (Beside.setCell gq _ 2 _)).trans (Beside.setCell gq _ 3 _)).trans (Beside.setCell gq _ 4 _)).trans (Beside.setCell gq _ 5 _)), hsp _ ((((((Beside.setCell gq _ 0 _).trans (Beside.setCell gq _ 1 _)).trans (Beside.setCell gq _ 2 _)).trans (Beside.setCell gq _ 3 _)).trans (Beside.setCell gq _ 4 _)).trans (Beside.setCell gq _ 5 _)), HSL.out, HSY.out, (by repeat (first | with_reducible exact Below.refl _ _ | with_reducible exact BS | with_reducible refine Below.setCell ?_ (by first | omega | (simp; done) | (simp; omega)) _ | with_reducible refine bDrewN ?_ _ | with_reducible refine Below.drew ?_ | with_reducible refine Below.alloc ?_ (by first | omega | (simp; done) | (simp; omega)) _))⟩
      case true =>
        obtain ⟨q0, R0⟩ := HR.out
        have z7 : gl < z3.heap.size := HL.out.1
        go_wp2_with fail
        refine (spoil_any (base := gl + 1) R0 (HSP.out.low (by omega)) (by omega) (by omega) HSL0.out HSY).mono ?_
        rintro e v3 hK
        unfold SpPost at hK
        obtain ⟨sv2, m2, cv2, L2, p8, rfl, SP2, SL2, SY2, R1, b1⟩ := hK
        replace HQ : Hid (Blk v3 gq [.int .i64 0, .bool false, .int .i64 0, .int .i64 0, .int .i64 0, .slice none 0 0]) := HQ.out.beside b1 (by omega)
        replace HL : Hid (Blk v3 gl [.int .i64 t, .bool hd, .int .i64 q, .int .i64 a, .int .i64 l, .slice tt m cc]) := HL.out.beside b1 (by omega)
        replace HO : Hid (OwnI (r + 1) v3 tt m V) := HO.out.beside b1 (by omega)
        replace HS : Hid (Below w.heap.size w v3) := HS.out.trans (b1.below (by omega) HS.out.size)
        clear HSP HSL HSY HSL0 z7
        have HSP : Hid (SpB (gl + 1) v3 sv2 m2 cv2 L2) := SP2
        have HSL : Hid (L2.length ≤ 1002) := SL2
        have HSY : Hid (∀ x ∈ L2, Byt x) := SY2
        clear SP2 SL2 SY2 R0 R1 b1 HR
        have l0 := HL.out.2.2 0 _ rfl
        have l1 := HL.out.2.2 1 _ rfl
        have l2 := HL.out.2.2 2 _ rfl
        have l3 := HL.out.2.2 3 _ rfl
        have l4 := HL.out.2.2 4 _ rfl
        have l5 := HL.out.2.2 5 _ rfl
        have g0 := HQ.out.2.2 0 _ rfl
        have f0 := HQ.out.2.1 0
        have g1 := HQ.out.2.2 1 _ rfl
        have f1 := HQ.out.2.1 1
        have g2 := HQ.out.2.2 2 _ rfl
        have f2 := HQ.out.2.1 2
        have g3 := HQ.out.2.2 3 _ rfl
        have f3 := HQ.out.2.1 3
        have g4 := HQ.out.2.2 4 _ rfl
        have f4 := HQ.out.2.1 4
        have g5 := HQ.out.2.2 5 _ rfl
        have f5 := HQ.out.2.1 5
        have zq_ := HQ.out.1
        have zl_ := HL.out.1
        have n_ : gl ≠ gq := by omega
        have BS := HS.out
        have sBS := BS.size
        have hrow : ∀ W2, Beside gq v3 W2 → RowI W2 tt m V := fun W2 hb => (OwnI.beside HO.out hb (by omega)).row
        have hsp : ∀ W2, Beside gq v3 W2 → SpB w.heap.size W2 sv2 m2 cv2 L2 := fun W2 hb => HSP.out.keepS hb (by omega) (by omega)
        go_wp2
        refine bodyPost_ret (v := .tuple #[.agg #[.int .i64 t, .bool hd, .int .i64 q, .int .i64 a, .int .i64 l, .slice tt m cc], .slice sv2 m2 cv2]) (by simp [results, Try.results9, go_sem, l0, l1, l2, l3, l4, l5, g0, g1, g2, g3, g4, g5, n_, n_.symm]) rfl ?_
        unfold DhPost
        exact ⟨t, hd, q, a, l, tt, m, cc, V, sv2, m2, cv2, L2, rfl, m21, hrow _ ((((((Beside.setCell gq _ 0 _).trans (Beside.setCell gq _ 1 _)).trans (Beside.setCell gq _ 2 _)).trans (Beside.setCell gq _ 3 _)).trans (Beside.setCell gq _ 4 _)).trans (Beside.setCell gq _ 5 _)), hsp _ ((((((Beside.setCell gq _ 0 _).trans (Beside.setCell gq _ 1 _)).trans (Beside.setCell gq _ 2 _)).trans (Beside.setCell gq _ 3 _)).trans (Beside.setCell gq _ 4 _)).trans (Beside.setCell gq _ 5 _)), HSL.out, HSY.out, (by repeat (first | with_reducible exact Below.refl _ _ | with_reducible exact BS | with_reducible refine Below.setCell ?_ (by first | omega | (simp; done) | (simp; omega)) _ | with_reducible refine bDrewN ?_ _ | with_reducible refine Below.drew ?_ | with_reducible refine Below.alloc ?_ (by first | omega | (simp; done) | (simp; omega)) _))⟩

end Go.Proofs.Ytkocbklkiehdiaa
