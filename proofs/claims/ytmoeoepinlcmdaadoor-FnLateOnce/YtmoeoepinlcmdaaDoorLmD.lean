/-
What is proved: the draw of limits and clocks.
-/
import Derived.Test.YtmoeoepinlcmdaaDoorLmS
import Derived.Test.YtmoeoepinlcmdaaDoorNrA
import Derived.Test.YtmoeoepinlcmdaaDoorRd2
import Derived.Test.YtmoeoepinlcmdaaDoorOwnL
import Derived.Test.YtmoeoepinlcmdaaDoorTn
import Derived.Test.YtmoeoepinlcmdaaDoorBlk
import Derived.Test.YtmoeoepinlcmdaaDoorSiz
import Derived.Deep.DeepCutAuto
import Derived.Deep.RegionHeldLaw
namespace Go.Proofs.YtmoeoepinlcmdaaDoor
set_option maxRecDepth 40000
open Go.ChangeShapes Go.WideShapes Go.ChangeAt Go.RowKit
set_option linter.unusedVariables false
set_option linter.unusedSimpArgs false

theorem info_LimitL : (Tryd.prog.info? 38).map (fun i => (i.zero, i.size, i.bytes)) = some (some (.agg #[.int .i64 0, .int .i64 0]), 2, 16) := by kernel_rfl
theorem list_LimitL {ops : Array Oper} {rest : List Oper} {o : Oper} {a : Act} {Q : Exit → Act → World → Prop} {W : World} {t : TypeId} {x0 x1 : Int} (base : Nat) (v : Value) (k : Nat) (xs : List Value) (s q : Operand) (hgd : o.guard = none)
    (ho : o.op = .call { callee := .builtin .append, args := #[s, q], argTypes := #[24, 24] }) (hs : a.eval s = v) (hx : a.eval q = .slice (some ⟨W.heap.size, 0, none⟩) 1 1) (hown : W.ownsRow base 38 2 v k xs) (hk : k ≤ 1000000) (hb : base ≤ W.heap.size)
    (h : ∀ g cap w', w'.ownsRow base 38 2 (.slice (some ⟨g, 0, none⟩) (k + 1) cap) (k + 1) (xs ++ [.int .i64 x0, .int .i64 x1]) → W.grownBy w' v.ownBlock → g < w'.heap.size → (v.ownBlock = some g ∨ W.heap.size < g) → wpList Tryd.prog ops Q rest (a.put o.dst (.slice (some ⟨g, 0, none⟩) (k + 1) cap)) w') :
    wpList Tryd.prog ops Q (o :: rest) a (W.alloc (.cells #[.int .i64 x0, .int .i64 x1] t)) := by
  obtain ⟨i0, hi, hz0, hz1, hz2⟩ := info_parts info_LimitL
  refine wpList_append_lies _ hgd s q 24 ho base 38 i0 (.agg #[.int .i64 0, .int .i64 0]) 2 16 Tryd.underlying24 hi hz0 hz1 hz2 rfl (by decide) v k xs hs (hown.alloc _) ⟨W.heap.size, 0, none⟩ 1 1 [.int .i64 x0, .int .i64 x1] hx rfl (newsTwo _ _ _ _) ?_ (by decide) (by unfold maxLen; omega) (by omega) (by simp; omega) _ rfl ?_
  · intro u hu
    simp at hu
    rcases hu with rfl | rfl <;> rfl
  · intro g cap w' h1 h2 h4 h3
    refine h g cap w' h1 (grown_new h2) h3 ?_
    rcases h4 with h4 | h4
    · exact .inl h4
    · right; rw [h4]; simp
theorem Blk.grownL {W W' : World} {b : Nat} {cs : List Value} {row : Option Nat} (h : Blk W b cs) (hg : W.grownBy W' row) (hn : row ≠ some b) : Blk W' b cs := by
  rcases row with _ | k
  · exact h.below ⟨hg.os, hg.tape, hg.output, hg.size, fun j hj => hg.block j hj (fun e => by cases e)⟩
  · exact h.beside (r := k) ⟨hg.os, hg.tape, hg.output, hg.size, fun j hj hne => hg.block j hj (fun e => by cases e; exact hne rfl)⟩ (fun e => hn (by rw [e]))
theorem LmS.ltL {w0 W : World} {r B : Nat} {s : Option Addr} {n c : Nat} {lv : Value} {nl : Nat} {cv : Value} {nc p : Nat} (h : LmS w0 W r B s n c lv nl cv nc p) : ∀ g, lv.ownBlock = some g → B ≤ g ∧ g < W.heap.size := by
  obtain ⟨h1, h2, h3, h4, h5, ⟨xs, h6, h7⟩, ys, h8, h9⟩ := h
  exact fun g hg => h6.lt g hg
theorem LmS.ltC {w0 W : World} {r B : Nat} {s : Option Addr} {n c : Nat} {lv : Value} {nl : Nat} {cv : Value} {nc p : Nat} (h : LmS w0 W r B s n c lv nl cv nc p) : ∀ g, cv.ownBlock = some g → B ≤ g ∧ g < W.heap.size := by
  obtain ⟨h1, h2, h3, h4, h5, ⟨xs, h6, h7⟩, ys, h8, h9⟩ := h
  exact fun g hg => h8.lt g hg
theorem LmS.start {w0 W : World} {r : Nat} {s : Option Addr} {n c p : Nat} (h : Rd W r s n c p) (b : Beside r w0 W) (hr : r < w0.heap.size) : LmS w0 ((W.alloc (.cells #[] 38)).alloc (.cells #[] 29)) r W.heap.size s n c (.slice (some ⟨W.heap.size, 0, none⟩) 0 0) 0 (.slice (some ⟨W.heap.size + 1, 0, none⟩) 0 0) 0 p := by
  have b1 : Below W.heap.size W (W.alloc (.cells #[] 38)) := below0 _ _
  have b2 : Below (W.alloc (.cells #[] 38)).heap.size (W.alloc (.cells #[] 38)) ((W.alloc (.cells #[] 38)).alloc (.cells #[] 29)) := below0 _ _
  have sz : (W.alloc (.cells #[] 38)).heap.size = W.heap.size + 1 := by simp
  have z := b.2.2.2.1
  refine ⟨(h.below b1).below b2, (b.later b1).later b2, by omega, z, Nat.le_trans b1.size b2.size, ⟨[], ?_, RowsP.nil _ _ _⟩, [], ?_, RowsP.nil _ _ _⟩
  · have q := World.ownsRow_lit (base := W.heap.size) (size := 2) (e := 38) W #[] 0 (Nat.le_refl _) (by simp [maxLen]) (by simp)
    exact own_besL q (Beside.of (r := (W.alloc (.cells #[] 38)).heap.size) b2) (fun g hg => by (have e : W.heap.size = g := by simpa [Value.ownBlock] using hg); omega)
  · have q := World.ownsRow_lit (base := W.heap.size) (size := 2) (e := 29) (W.alloc (.cells #[] 38)) #[] 0 (by omega) (by simp [maxLen]) (by simp)
    simpa [sz] using q
def LimPost (r : Nat) (s : Option Addr) (n c : Nat) (w : World) (e : Ending) (w' : World) : Prop := ∃ (B : Nat) (lv : Value) (nl : Nat) (cv : Value) (nc p : Nat), e = .returned (.tuple #[lv, cv]) ∧ 1 ≤ nl ∧ nl ≤ 63 ∧ nc ≤ 63 ∧ LmS w w' r B s n c lv nl cv nc p
set_option maxRecDepth 20000 in
set_option maxHeartbeats 8000000 in
theorem limits_any {r : Nat} {s : Option Addr} {n c p : Nat} {w : World} (h : Hid (Rd w r s n c p)) :
    Calls Tryd.prog 28 #[.pointer (some ⟨r, 0, none⟩)] w fun e w' => LimPost r s n c w e w' := by
  unfold LimPost
  have zr : r < w.heap.size := h.out.1
  go_enter Tryd.func28, Tryd.ntmps28
  go_upto_region 3 with fail
  obtain ⟨wa, hwa⟩ : ∃ z, z = (w.alloc (.cells #[] 38)).alloc (.cells #[] 29) := ⟨_, rfl⟩
  try rw [← hwa]
  have H0 : Hid (LmS w wa r w.heap.size s n c (.slice (some ⟨w.heap.size, 0, none⟩) 0 0) 0 (.slice (some ⟨w.heap.size + 1, 0, none⟩) 0 0) 0 p) := by
    show LmS _ _ _ _ _ _ _ _ _ _ _ _
    rw [hwa]; exact LmS.start h.out (Beside.of (Below.refl _ _)) zr
  obtain ⟨B, hB⟩ : ∃ z, z = w.heap.size := ⟨_, rfl⟩
  try rw [← hB] at H0
  try rw [← hB]
  clear hwa hB h
  go_wp2_with fail
  refine (size_any 6 10 (by decide) (by decide) (by decide) (by decide) H0.1).mono ?_
  rintro e w1 ⟨k0, p1, rfl, k01, k02, R1, b1⟩
  have k03 : k0 ≤ 11 := by omega
  clear k02
  have H1 : Hid (LmS w w1 r B s n c (.slice (some ⟨B, 0, none⟩) 0 0) 0 (.slice (some ⟨B + 1, 0, none⟩) 0 0) 0 p1) := H0.out.call R1 b1
  clear R1 b1 H0
  go_wp2_with fail
  go_loopw [4, 5, 6] (fun l c' v wr => ∃ (lv cv : Value) (k nl q : Nat), lv = l ∧ cv = c' ∧ v = .int .i64 (k : Int) ∧ nl + k ≤ 11 ∧ 1 ≤ nl + k ∧ Hid (LmS w wr r B s n c lv nl cv nl q)) (fun _ _ v _ => (intOf v).toNat)
  case atStart => exact ⟨_, _, k0.toNat, 0, p1, rfl, rfl, by go_num, by omega, by omega, H1⟩
  case round =>
    clear H1 k01 k03
    obtain ⟨lv, cv, k, nl, q, rfl, rfl, rfl, hk3, hk4, HL⟩ := hrel
    rename World => wr
    by_cases hk : 0 < k
    case pos =>
      have ki : 0 < (k : Int) := by omega
      obtain ⟨k', hk'⟩ : ∃ k' : Nat, (k : Int) - 1 = (k' : Int) := ⟨k - 1, by omega⟩
      have wk : IntKind.i64.wrap ((k : Int) - 1) = (k' : Int) := by rw [IntKind.wrap_i64]; omega
      have hkk : k = k' + 1 := by omega
      have HKK : Hid (k = k' + 1) := hkk
      clear hkk
      have ZL : Hid (∀ g, lv.ownBlock = some g → B ≤ g ∧ g < wr.heap.size) := HL.out.ltL
      have ZC : Hid (∀ g, cv.ownBlock = some g → B ≤ g ∧ g < wr.heap.size) := HL.out.ltC
      have ZB : Hid (B ≤ wr.heap.size ∧ r < B) := ⟨HL.out.2.2.2.2.1, HL.out.2.2.1⟩
      go_upto_region 6 with fail
      go_cut [7] (fun v wx => ∃ (lp : Nat) (a x : Int), v = .pointer (some ⟨lp, 0, none⟩) ∧ wr.heap.size ≤ lp ∧ Hid (∃ q, LmS w wx r B s n c lv nl cv nl q) ∧ Hid (Blk wx lp [.int .i64 a, .int .i64 x]))
      case first =>
        refine wp_region_held_drew (S := fun w' => r < w'.heap.size ∧ True) (by kernel_rfl) ?_ (fun hHeld => ?_)
        · exact ⟨HL.out.1.1, trivial⟩
        obtain ⟨v0, hv0⟩ : ∃ z, z = wr.drew := ⟨_, rfl⟩
        try rw [← hv0] at hHeld
        rw [← hv0]
        have bv0 : Below wr.heap.size wr v0 := by rw [hv0]; exact Below.drew (Below.refl _ _)
        clear hv0
        have HX : Hid (∃ q, LmS w v0 r B s n c lv nl cv nl q) := ⟨q, HL.out.below bv0⟩
        have z0 : wr.heap.size ≤ v0.heap.size := bv0.size
        clear bv0 HL
        refine wpAnyH_take (i := 1) (v := .pointer (some ⟨r, 0, none⟩)) rfl (by kernel_rfl) (by kernel_rfl) (by kernel_rfl) (fun _ _ _ h => h) (Or.inl ⟨by kernel_rfl, ?_⟩) hHeld ?_
        · intro w' hSw
          obtain ⟨hz0, htr⟩ := hSw
          first | (go_simp; done) | (go_simp; with_reducible rfl) | (go_simp; rw [IntKind.wrap_i64]; omega) | (go_simp; omega)
        simp only [Act.put, List.setIfInBounds_toArray, List.set_cons_zero, List.set_cons_succ]
        refine wpAnyH_take (i := 5) (v := .pointer (some ⟨r, 0, none⟩)) rfl (by kernel_rfl) (by kernel_rfl) (by kernel_rfl) (fun _ _ _ h => h) (Or.inl ⟨by kernel_rfl, ?_⟩) hHeld ?_
        · intro w' hSw
          obtain ⟨hz0, htr⟩ := hSw
          first | (go_simp; done) | (go_simp; with_reducible rfl) | (go_simp; rw [IntKind.wrap_i64]; omega) | (go_simp; omega)
        simp only [Act.put, List.setIfInBounds_toArray, List.set_cons_zero, List.set_cons_succ]
        refine wpAnyH_ready (rs := [0, 2, 9]) (by kernel_rfl) (by simp) ?_
        refine (AllReadyH.cons rfl (fun KK hK => ?_) (AllReadyH.cons rfl (fun KK hK => ?_) (AllReadyH.cons rfl (fun KK hK => ?_) AllReadyH.nil)))
        · go_simp
          obtain ⟨v0_1, hv_⟩ : ∃ z, z = v0.alloc (.cells #[.int .i64 255, .int .i64 1, .int .i64 3, .int .i64 0] 3) := ⟨_, rfl⟩
          rw [← hv_]
          obtain ⟨lb, hlb⟩ : ∃ z, z = v0.heap.size := ⟨_, rfl⟩
          have b5 : Below v0.heap.size v0 v0_1 := by rw [hv_]; exact below0 _ _
          have HB : Hid (Blk v0_1 lb [.int .i64 255, .int .i64 1, .int .i64 3, .int .i64 0]) := by rw [hv_, hlb]; exact Blk.new v0 #[.int .i64 255, .int .i64 1, .int .i64 3, .int .i64 0] _
          have zlb : wr.heap.size ≤ lb := by omega
          replace HX : Hid (∃ q, LmS w v0_1 r B s n c lv nl cv nl q) := by obtain ⟨q0, R0⟩ := HX.out; exact ⟨q0, R0.below b5⟩
          have z_v0_1 : wr.heap.size ≤ v0_1.heap.size := Nat.le_trans (by assumption) b5.size
          try rw [← hlb]
          clear hv_ hlb b5
          refine hK.out _ _ (⟨by obtain ⟨q0, R0⟩ := HX.out; exact R0.1.1, trivial⟩) (fun hHeld => ?_)
          clear hK KK
          refine wpAnyH_ready (rs := [2, 9]) (by kernel_rfl) (by simp) ?_
          refine (AllReadyH.cons rfl (fun KK hK => ?_) (AllReadyH.cons rfl (fun KK hK => ?_) AllReadyH.nil))
          · obtain ⟨q0, R0⟩ := HX.out
            have HR0 : Hid (Rd v0_1 r s n c q0) := R0.1
            have zr5 : r < wr.heap.size := by have := ZB.out; omega
            go_simp
            go_wp2_with (first | (go_at_call 43; refine (below_any 4 HR0).mono ?_; rintro e v0_2 ⟨j5, p5, rfl, j0, -, jm, R5, b5⟩))
            replace HB : Hid (Blk v0_2 lb [.int .i64 255, .int .i64 1, .int .i64 3, .int .i64 0]) := HB.out.beside b5 (by omega)
            replace HX : Hid (∃ q, LmS w v0_2 r B s n c lv nl cv nl q) := ⟨_, R0.call R5 b5⟩
            have z_v0_2 : wr.heap.size ≤ v0_2.heap.size := Nat.le_trans (by assumption) b5.2.2.2.1
            obtain ⟨jn, rfl⟩ : ∃ jn : Nat, j5 = jn := ⟨j5.toNat, by omega⟩
            have j4 : (jn : Int) < 4 := by omega
            clear jm
            clear R5 b5 R0 HR0
            refine hK.out _ _ (⟨by obtain ⟨q0, R0⟩ := HX.out; exact R0.1.1, trivial⟩) (fun hHeld => ?_)
            clear hK KK
            refine wpAnyH_take (i := 3) (v := .pointer (some ⟨lb, jn, none⟩)) rfl (by kernel_rfl) (by kernel_rfl) (by kernel_rfl) (fun _ _ _ h => h) (Or.inl ⟨by kernel_rfl, ?_⟩) hHeld ?_
            · intro w' hSw
              obtain ⟨hz0, htr⟩ := hSw
              first | (go_simp; done) | (go_simp; with_reducible rfl) | (go_simp; rw [IntKind.wrap_i64]; omega) | (go_simp; omega)
            simp only [Act.put, List.setIfInBounds_toArray, List.set_cons_zero, List.set_cons_succ]
            refine wpAnyH_ready (rs := [4, 6, 9]) (by kernel_rfl) (by simp) ?_
            refine (AllReadyH.cons rfl (fun KK hK => ?_) (AllReadyH.cons rfl (fun KK hK => ?_) (AllReadyH.cons rfl (fun KK hK => ?_) AllReadyH.nil)))
            · obtain ⟨jn', v, ej, -, cv_, -⟩ := picked (w' := v0_2) (L := [255, 1, 3, 0]) HB.out (by omega : (0 : Int) ≤ (jn : Int)) (by simp; omega)
              obtain rfl : jn = jn' := by omega
              have hl_ := HB.out.1
              go_simp
              clear cv_ ej hl_
              refine hK.out _ _ (⟨by obtain ⟨q0, R0⟩ := HX.out; exact R0.1.1, trivial⟩) (fun hHeld => ?_)
              clear hK KK
              refine wpAnyH_ready (rs := [6, 9]) (by kernel_rfl) (by simp) ?_
              refine (AllReadyH.cons rfl (fun KK hK => ?_) (AllReadyH.cons rfl (fun KK hK => ?_) AllReadyH.nil))
              · obtain ⟨q0, R0⟩ := HX.out
                have HR0 : Hid (Rd v0_2 r s n c q0) := R0.1
                have zr5 : r < wr.heap.size := by have := ZB.out; omega
                go_simp
                go_wp2_with (first | (go_at_call 44; refine (upto_any 6 (by decide) HR0).mono ?_; rintro e v0_4 ⟨a, p5, rfl, a0, a6, R5, b5⟩))
                replace HB : Hid (Blk v0_4 lb [.int .i64 255, .int .i64 1, .int .i64 3, .int .i64 0]) := HB.out.beside b5 (by omega)
                replace HX : Hid (∃ q, LmS w v0_4 r B s n c lv nl cv nl q) := ⟨_, R0.call R5 b5⟩
                have z_v0_4 : wr.heap.size ≤ v0_4.heap.size := Nat.le_trans (by assumption) b5.2.2.2.1
                have wa6 : IntKind.i64.wrap (1 + a) = 1 + a := by rw [IntKind.wrap_i64]; omega
                clear R5 b5 R0 HR0
                refine hK.out _ _ (⟨by obtain ⟨q0, R0⟩ := HX.out; exact R0.1.1, trivial⟩) (fun hHeld => ?_)
                clear hK KK
                refine wpAnyH_take (i := 7) (v := .int .i64 (1 + a)) rfl (by kernel_rfl) (by kernel_rfl) (by kernel_rfl) (fun _ _ _ h => h) (Or.inl ⟨by kernel_rfl, ?_⟩) hHeld ?_
                · intro w' hSw
                  obtain ⟨hz0, htr⟩ := hSw
                  first | (go_simp; done) | (go_simp; with_reducible rfl) | (go_simp; rw [IntKind.wrap_i64]; omega) | (go_simp; omega)
                simp only [Act.put, List.setIfInBounds_toArray, List.set_cons_zero, List.set_cons_succ]
                refine wpAnyH_take (i := 8) (v := .agg #[.int .i64 v, .int .i64 (1 + a)]) rfl (by kernel_rfl) (by kernel_rfl) (by kernel_rfl) (fun _ _ _ h => h) (Or.inl ⟨by kernel_rfl, ?_⟩) hHeld ?_
                · intro w' hSw
                  obtain ⟨hz0, htr⟩ := hSw
                  first | (go_simp; done) | (go_simp; with_reducible rfl) | (go_simp; rw [IntKind.wrap_i64]; omega) | (go_simp; omega)
                simp only [Act.put, List.setIfInBounds_toArray, List.set_cons_zero, List.set_cons_succ]
                refine wpAnyH_ready (rs := [9]) (by kernel_rfl) (by simp) ?_
                refine (AllReadyH.cons rfl (fun KK hK => ?_) AllReadyH.nil)
                go_simp
                obtain ⟨v0_5, hv_⟩ : ∃ z, z = v0_4.alloc (.cells #[.int .i64 0, .int .i64 0] 38) := ⟨_, rfl⟩
                rw [← hv_]
                obtain ⟨lp, hlp⟩ : ∃ z, z = v0_4.heap.size := ⟨_, rfl⟩
                have b5 : Below v0_4.heap.size v0_4 v0_5 := by rw [hv_]; exact below0 _ _
                have HP : Hid (Blk v0_5 lp [.int .i64 0, .int .i64 0]) := by rw [hv_, hlp]; exact Blk.new v0_4 #[.int .i64 0, .int .i64 0] _
                have zlp : wr.heap.size ≤ lp := by omega
                replace HB : Hid (Blk v0_5 lb [.int .i64 255, .int .i64 1, .int .i64 3, .int .i64 0]) := HB.out.below b5
                replace HX : Hid (∃ q, LmS w v0_5 r B s n c lv nl cv nl q) := by obtain ⟨q0, R0⟩ := HX.out; exact ⟨q0, R0.below b5⟩
                have z_v0_5 : wr.heap.size ≤ v0_5.heap.size := Nat.le_trans (by assumption) b5.size
                try rw [← hlp]
                clear hv_ hlp b5
                refine hK.out _ _ (⟨by obtain ⟨q0, R0⟩ := HX.out; exact R0.1.1, trivial⟩) (fun hHeld => ?_)
                clear hK KK
                refine wpAnyH_ready (rs := [10]) (by kernel_rfl) (by simp) ?_
                refine (AllReadyH.cons rfl (fun KK hK => ?_) AllReadyH.nil)
                have t0 := HP.out.2.1 0
                have t1 := HP.out.2.1 1
                have tz := HP.out.1
                have d0 := HP.out.2.2 0 _ rfl
                have d1 := HP.out.2.2 1 _ rfl
                go_simp
                obtain ⟨v0_6, hv_⟩ : ∃ z, z = (v0_5.setCell ⟨lp, 0, none⟩ (.int .i64 v)).setCell ⟨lp, 1, none⟩ (.int .i64 (1 + a)) := ⟨_, rfl⟩
                rw [← hv_]
                have b5 : Beside lp v0_5 v0_6 := by rw [hv_]; exact (Beside.setCell lp v0_5 0 _).trans (Beside.setCell lp _ 1 _)
                replace HP : Hid (Blk v0_6 lp [.int .i64 v, .int .i64 (1 + a)]) := by show Blk _ _ _; rw [hv_]; exact (HP.out.set 0 _).set 1 _
                replace HX : Hid (∃ q, LmS w v0_6 r B s n c lv nl cv nl q) := by obtain ⟨q0, R0⟩ := HX.out; exact ⟨q0, R0.other b5 (by have := ZB.out; omega) (fun g hg => by have := ZL.out g hg; omega) (fun g hg => by have := ZC.out g hg; omega)⟩
                clear hv_ b5 t0 t1 tz d0 d1
                refine hK.out _ _ (⟨by obtain ⟨q0, R0⟩ := HX.out; exact R0.1.1, trivial⟩) (fun hHeld => ?_)
                clear hK KK
                refine wpAnyH_done (by kernel_rfl) ?_ _
                clear hHeld
                go_wp2_with fail
                go_meet
                exact ⟨lp, v, 1 + a, rfl, zlp, HX, HP⟩
              · go_simp
                obtain ⟨v0_7, hv_⟩ : ∃ z, z = v0_2.alloc (.cells #[.int .i64 0, .int .i64 0] 38) := ⟨_, rfl⟩
                rw [← hv_]
                obtain ⟨lp, hlp⟩ : ∃ z, z = v0_2.heap.size := ⟨_, rfl⟩
                have b5 : Below v0_2.heap.size v0_2 v0_7 := by rw [hv_]; exact below0 _ _
                have HP : Hid (Blk v0_7 lp [.int .i64 0, .int .i64 0]) := by rw [hv_, hlp]; exact Blk.new v0_2 #[.int .i64 0, .int .i64 0] _
                have zlp : wr.heap.size ≤ lp := by omega
                replace HB : Hid (Blk v0_7 lb [.int .i64 255, .int .i64 1, .int .i64 3, .int .i64 0]) := HB.out.below b5
                replace HX : Hid (∃ q, LmS w v0_7 r B s n c lv nl cv nl q) := by obtain ⟨q0, R0⟩ := HX.out; exact ⟨q0, R0.below b5⟩
                have z_v0_7 : wr.heap.size ≤ v0_7.heap.size := Nat.le_trans (by assumption) b5.size
                try rw [← hlp]
                clear hv_ hlp b5
                refine hK.out _ _ (⟨by obtain ⟨q0, R0⟩ := HX.out; exact R0.1.1, trivial⟩) (fun hHeld => ?_)
                clear hK KK
                refine wpAnyH_ready (rs := [6]) (by kernel_rfl) (by simp) ?_
                refine (AllReadyH.cons rfl (fun KK hK => ?_) AllReadyH.nil)
                obtain ⟨q0, R0⟩ := HX.out
                have HR0 : Hid (Rd v0_7 r s n c q0) := R0.1
                have zr5 : r < wr.heap.size := by have := ZB.out; omega
                go_simp
                go_wp2_with (first | (go_at_call 44; refine (upto_any 6 (by decide) HR0).mono ?_; rintro e v0_8 ⟨a, p5, rfl, a0, a6, R5, b5⟩))
                replace HB : Hid (Blk v0_8 lb [.int .i64 255, .int .i64 1, .int .i64 3, .int .i64 0]) := HB.out.beside b5 (by omega)
                replace HP : Hid (Blk v0_8 lp [.int .i64 0, .int .i64 0]) := HP.out.beside b5 (by omega)
                replace HX : Hid (∃ q, LmS w v0_8 r B s n c lv nl cv nl q) := ⟨_, R0.call R5 b5⟩
                have z_v0_8 : wr.heap.size ≤ v0_8.heap.size := Nat.le_trans (by assumption) b5.2.2.2.1
                have wa6 : IntKind.i64.wrap (1 + a) = 1 + a := by rw [IntKind.wrap_i64]; omega
                clear R5 b5 R0 HR0
                refine hK.out _ _ (⟨by obtain ⟨q0, R0⟩ := HX.out; exact R0.1.1, trivial⟩) (fun hHeld => ?_)
                clear hK KK
                refine wpAnyH_take (i := 7) (v := .int .i64 (1 + a)) rfl (by kernel_rfl) (by kernel_rfl) (by kernel_rfl) (fun _ _ _ h => h) (Or.inl ⟨by kernel_rfl, ?_⟩) hHeld ?_
                · intro w' hSw
                  obtain ⟨hz0, htr⟩ := hSw
                  first | (go_simp; done) | (go_simp; with_reducible rfl) | (go_simp; rw [IntKind.wrap_i64]; omega) | (go_simp; omega)
                simp only [Act.put, List.setIfInBounds_toArray, List.set_cons_zero, List.set_cons_succ]
                refine wpAnyH_take (i := 8) (v := .agg #[.int .i64 v, .int .i64 (1 + a)]) rfl (by kernel_rfl) (by kernel_rfl) (by kernel_rfl) (fun _ _ _ h => h) (Or.inl ⟨by kernel_rfl, ?_⟩) hHeld ?_
                · intro w' hSw
                  obtain ⟨hz0, htr⟩ := hSw
                  first | (go_simp; done) | (go_simp; with_reducible rfl) | (go_simp; rw [IntKind.wrap_i64]; omega) | (go_simp; omega)
                simp only [Act.put, List.setIfInBounds_toArray, List.set_cons_zero, List.set_cons_succ]
                refine wpAnyH_ready (rs := [10]) (by kernel_rfl) (by simp) ?_
                refine (AllReadyH.cons rfl (fun KK hK => ?_) AllReadyH.nil)
                have t0 := HP.out.2.1 0
                have t1 := HP.out.2.1 1
                have tz := HP.out.1
                have d0 := HP.out.2.2 0 _ rfl
                have d1 := HP.out.2.2 1 _ rfl
                go_simp
                obtain ⟨v0_9, hv_⟩ : ∃ z, z = (v0_8.setCell ⟨lp, 0, none⟩ (.int .i64 v)).setCell ⟨lp, 1, none⟩ (.int .i64 (1 + a)) := ⟨_, rfl⟩
                rw [← hv_]
                have b5 : Beside lp v0_8 v0_9 := by rw [hv_]; exact (Beside.setCell lp v0_8 0 _).trans (Beside.setCell lp _ 1 _)
                replace HP : Hid (Blk v0_9 lp [.int .i64 v, .int .i64 (1 + a)]) := by show Blk _ _ _; rw [hv_]; exact (HP.out.set 0 _).set 1 _
                replace HX : Hid (∃ q, LmS w v0_9 r B s n c lv nl cv nl q) := by obtain ⟨q0, R0⟩ := HX.out; exact ⟨q0, R0.other b5 (by have := ZB.out; omega) (fun g hg => by have := ZL.out g hg; omega) (fun g hg => by have := ZC.out g hg; omega)⟩
                clear hv_ b5 t0 t1 tz d0 d1
                refine hK.out _ _ (⟨by obtain ⟨q0, R0⟩ := HX.out; exact R0.1.1, trivial⟩) (fun hHeld => ?_)
                clear hK KK
                refine wpAnyH_done (by kernel_rfl) ?_ _
                clear hHeld
                go_wp2_with fail
                go_meet
                exact ⟨lp, v, 1 + a, rfl, zlp, HX, HP⟩
            · obtain ⟨q0, R0⟩ := HX.out
              have HR0 : Hid (Rd v0_2 r s n c q0) := R0.1
              have zr5 : r < wr.heap.size := by have := ZB.out; omega
              go_simp
              go_wp2_with (first | (go_at_call 44; refine (upto_any 6 (by decide) HR0).mono ?_; rintro e v0_10 ⟨a, p5, rfl, a0, a6, R5, b5⟩))
              replace HB : Hid (Blk v0_10 lb [.int .i64 255, .int .i64 1, .int .i64 3, .int .i64 0]) := HB.out.beside b5 (by omega)
              replace HX : Hid (∃ q, LmS w v0_10 r B s n c lv nl cv nl q) := ⟨_, R0.call R5 b5⟩
              have z_v0_10 : wr.heap.size ≤ v0_10.heap.size := Nat.le_trans (by assumption) b5.2.2.2.1
              have wa6 : IntKind.i64.wrap (1 + a) = 1 + a := by rw [IntKind.wrap_i64]; omega
              clear R5 b5 R0 HR0
              refine hK.out _ _ (⟨by obtain ⟨q0, R0⟩ := HX.out; exact R0.1.1, trivial⟩) (fun hHeld => ?_)
              clear hK KK
              refine wpAnyH_take (i := 7) (v := .int .i64 (1 + a)) rfl (by kernel_rfl) (by kernel_rfl) (by kernel_rfl) (fun _ _ _ h => h) (Or.inl ⟨by kernel_rfl, ?_⟩) hHeld ?_
              · intro w' hSw
                obtain ⟨hz0, htr⟩ := hSw
                first | (go_simp; done) | (go_simp; with_reducible rfl) | (go_simp; rw [IntKind.wrap_i64]; omega) | (go_simp; omega)
              simp only [Act.put, List.setIfInBounds_toArray, List.set_cons_zero, List.set_cons_succ]
              refine wpAnyH_ready (rs := [4, 9]) (by kernel_rfl) (by simp) ?_
              refine (AllReadyH.cons rfl (fun KK hK => ?_) (AllReadyH.cons rfl (fun KK hK => ?_) AllReadyH.nil))
              · obtain ⟨jn', v, ej, -, cv_, -⟩ := picked (w' := v0_10) (L := [255, 1, 3, 0]) HB.out (by omega : (0 : Int) ≤ (jn : Int)) (by simp; omega)
                obtain rfl : jn = jn' := by omega
                have hl_ := HB.out.1
                go_simp
                clear cv_ ej hl_
                refine hK.out _ _ (⟨by obtain ⟨q0, R0⟩ := HX.out; exact R0.1.1, trivial⟩) (fun hHeld => ?_)
                clear hK KK
                refine wpAnyH_take (i := 8) (v := .agg #[.int .i64 v, .int .i64 (1 + a)]) rfl (by kernel_rfl) (by kernel_rfl) (by kernel_rfl) (fun _ _ _ h => h) (Or.inl ⟨by kernel_rfl, ?_⟩) hHeld ?_
                · intro w' hSw
                  obtain ⟨hz0, htr⟩ := hSw
                  first | (go_simp; done) | (go_simp; with_reducible rfl) | (go_simp; rw [IntKind.wrap_i64]; omega) | (go_simp; omega)
                simp only [Act.put, List.setIfInBounds_toArray, List.set_cons_zero, List.set_cons_succ]
                refine wpAnyH_ready (rs := [9]) (by kernel_rfl) (by simp) ?_
                refine (AllReadyH.cons rfl (fun KK hK => ?_) AllReadyH.nil)
                go_simp
                obtain ⟨v0_12, hv_⟩ : ∃ z, z = v0_10.alloc (.cells #[.int .i64 0, .int .i64 0] 38) := ⟨_, rfl⟩
                rw [← hv_]
                obtain ⟨lp, hlp⟩ : ∃ z, z = v0_10.heap.size := ⟨_, rfl⟩
                have b5 : Below v0_10.heap.size v0_10 v0_12 := by rw [hv_]; exact below0 _ _
                have HP : Hid (Blk v0_12 lp [.int .i64 0, .int .i64 0]) := by rw [hv_, hlp]; exact Blk.new v0_10 #[.int .i64 0, .int .i64 0] _
                have zlp : wr.heap.size ≤ lp := by omega
                replace HB : Hid (Blk v0_12 lb [.int .i64 255, .int .i64 1, .int .i64 3, .int .i64 0]) := HB.out.below b5
                replace HX : Hid (∃ q, LmS w v0_12 r B s n c lv nl cv nl q) := by obtain ⟨q0, R0⟩ := HX.out; exact ⟨q0, R0.below b5⟩
                have z_v0_12 : wr.heap.size ≤ v0_12.heap.size := Nat.le_trans (by assumption) b5.size
                try rw [← hlp]
                clear hv_ hlp b5
                refine hK.out _ _ (⟨by obtain ⟨q0, R0⟩ := HX.out; exact R0.1.1, trivial⟩) (fun hHeld => ?_)
                clear hK KK
                refine wpAnyH_ready (rs := [10]) (by kernel_rfl) (by simp) ?_
                refine (AllReadyH.cons rfl (fun KK hK => ?_) AllReadyH.nil)
                have t0 := HP.out.2.1 0
                have t1 := HP.out.2.1 1
                have tz := HP.out.1
                have d0 := HP.out.2.2 0 _ rfl
                have d1 := HP.out.2.2 1 _ rfl
                go_simp
                obtain ⟨v0_13, hv_⟩ : ∃ z, z = (v0_12.setCell ⟨lp, 0, none⟩ (.int .i64 v)).setCell ⟨lp, 1, none⟩ (.int .i64 (1 + a)) := ⟨_, rfl⟩
                rw [← hv_]
                have b5 : Beside lp v0_12 v0_13 := by rw [hv_]; exact (Beside.setCell lp v0_12 0 _).trans (Beside.setCell lp _ 1 _)
                replace HP : Hid (Blk v0_13 lp [.int .i64 v, .int .i64 (1 + a)]) := by show Blk _ _ _; rw [hv_]; exact (HP.out.set 0 _).set 1 _
                replace HX : Hid (∃ q, LmS w v0_13 r B s n c lv nl cv nl q) := by obtain ⟨q0, R0⟩ := HX.out; exact ⟨q0, R0.other b5 (by have := ZB.out; omega) (fun g hg => by have := ZL.out g hg; omega) (fun g hg => by have := ZC.out g hg; omega)⟩
                clear hv_ b5 t0 t1 tz d0 d1
                refine hK.out _ _ (⟨by obtain ⟨q0, R0⟩ := HX.out; exact R0.1.1, trivial⟩) (fun hHeld => ?_)
                clear hK KK
                refine wpAnyH_done (by kernel_rfl) ?_ _
                clear hHeld
                go_wp2_with fail
                go_meet
                exact ⟨lp, v, 1 + a, rfl, zlp, HX, HP⟩
              · go_simp
                obtain ⟨v0_14, hv_⟩ : ∃ z, z = v0_10.alloc (.cells #[.int .i64 0, .int .i64 0] 38) := ⟨_, rfl⟩
                rw [← hv_]
                obtain ⟨lp, hlp⟩ : ∃ z, z = v0_10.heap.size := ⟨_, rfl⟩
                have b5 : Below v0_10.heap.size v0_10 v0_14 := by rw [hv_]; exact below0 _ _
                have HP : Hid (Blk v0_14 lp [.int .i64 0, .int .i64 0]) := by rw [hv_, hlp]; exact Blk.new v0_10 #[.int .i64 0, .int .i64 0] _
                have zlp : wr.heap.size ≤ lp := by omega
                replace HB : Hid (Blk v0_14 lb [.int .i64 255, .int .i64 1, .int .i64 3, .int .i64 0]) := HB.out.below b5
                replace HX : Hid (∃ q, LmS w v0_14 r B s n c lv nl cv nl q) := by obtain ⟨q0, R0⟩ := HX.out; exact ⟨q0, R0.below b5⟩
                have z_v0_14 : wr.heap.size ≤ v0_14.heap.size := Nat.le_trans (by assumption) b5.size
                try rw [← hlp]
                clear hv_ hlp b5
                refine hK.out _ _ (⟨by obtain ⟨q0, R0⟩ := HX.out; exact R0.1.1, trivial⟩) (fun hHeld => ?_)
                clear hK KK
                refine wpAnyH_ready (rs := [4]) (by kernel_rfl) (by simp) ?_
                refine (AllReadyH.cons rfl (fun KK hK => ?_) AllReadyH.nil)
                obtain ⟨jn', v, ej, -, cv_, -⟩ := picked (w' := v0_14) (L := [255, 1, 3, 0]) HB.out (by omega : (0 : Int) ≤ (jn : Int)) (by simp; omega)
                obtain rfl : jn = jn' := by omega
                have hl_ := HB.out.1
                go_simp
                clear cv_ ej hl_
                refine hK.out _ _ (⟨by obtain ⟨q0, R0⟩ := HX.out; exact R0.1.1, trivial⟩) (fun hHeld => ?_)
                clear hK KK
                refine wpAnyH_take (i := 8) (v := .agg #[.int .i64 v, .int .i64 (1 + a)]) rfl (by kernel_rfl) (by kernel_rfl) (by kernel_rfl) (fun _ _ _ h => h) (Or.inl ⟨by kernel_rfl, ?_⟩) hHeld ?_
                · intro w' hSw
                  obtain ⟨hz0, htr⟩ := hSw
                  first | (go_simp; done) | (go_simp; with_reducible rfl) | (go_simp; rw [IntKind.wrap_i64]; omega) | (go_simp; omega)
                simp only [Act.put, List.setIfInBounds_toArray, List.set_cons_zero, List.set_cons_succ]
                refine wpAnyH_ready (rs := [10]) (by kernel_rfl) (by simp) ?_
                refine (AllReadyH.cons rfl (fun KK hK => ?_) AllReadyH.nil)
                have t0 := HP.out.2.1 0
                have t1 := HP.out.2.1 1
                have tz := HP.out.1
                have d0 := HP.out.2.2 0 _ rfl
                have d1 := HP.out.2.2 1 _ rfl
                go_simp
                obtain ⟨v0_16, hv_⟩ : ∃ z, z = (v0_14.setCell ⟨lp, 0, none⟩ (.int .i64 v)).setCell ⟨lp, 1, none⟩ (.int .i64 (1 + a)) := ⟨_, rfl⟩
                rw [← hv_]
                have b5 : Beside lp v0_14 v0_16 := by rw [hv_]; exact (Beside.setCell lp v0_14 0 _).trans (Beside.setCell lp _ 1 _)
                replace HP : Hid (Blk v0_16 lp [.int .i64 v, .int .i64 (1 + a)]) := by show Blk _ _ _; rw [hv_]; exact (HP.out.set 0 _).set 1 _
                replace HX : Hid (∃ q, LmS w v0_16 r B s n c lv nl cv nl q) := by obtain ⟨q0, R0⟩ := HX.out; exact ⟨q0, R0.other b5 (by have := ZB.out; omega) (fun g hg => by have := ZL.out g hg; omega) (fun g hg => by have := ZC.out g hg; omega)⟩
                clear hv_ b5 t0 t1 tz d0 d1
                refine hK.out _ _ (⟨by obtain ⟨q0, R0⟩ := HX.out; exact R0.1.1, trivial⟩) (fun hHeld => ?_)
                clear hK KK
                refine wpAnyH_done (by kernel_rfl) ?_ _
                clear hHeld
                go_wp2_with fail
                go_meet
                exact ⟨lp, v, 1 + a, rfl, zlp, HX, HP⟩
            · go_simp
              obtain ⟨v0_17, hv_⟩ : ∃ z, z = v0_2.alloc (.cells #[.int .i64 0, .int .i64 0] 38) := ⟨_, rfl⟩
              rw [← hv_]
              obtain ⟨lp, hlp⟩ : ∃ z, z = v0_2.heap.size := ⟨_, rfl⟩
              have b5 : Below v0_2.heap.size v0_2 v0_17 := by rw [hv_]; exact below0 _ _
              have HP : Hid (Blk v0_17 lp [.int .i64 0, .int .i64 0]) := by rw [hv_, hlp]; exact Blk.new v0_2 #[.int .i64 0, .int .i64 0] _
              have zlp : wr.heap.size ≤ lp := by omega
              replace HB : Hid (Blk v0_17 lb [.int .i64 255, .int .i64 1, .int .i64 3, .int .i64 0]) := HB.out.below b5
              replace HX : Hid (∃ q, LmS w v0_17 r B s n c lv nl cv nl q) := by obtain ⟨q0, R0⟩ := HX.out; exact ⟨q0, R0.below b5⟩
              have z_v0_17 : wr.heap.size ≤ v0_17.heap.size := Nat.le_trans (by assumption) b5.size
              try rw [← hlp]
              clear hv_ hlp b5
              refine hK.out _ _ (⟨by obtain ⟨q0, R0⟩ := HX.out; exact R0.1.1, trivial⟩) (fun hHeld => ?_)
              clear hK KK
              refine wpAnyH_ready (rs := [4, 6]) (by kernel_rfl) (by simp) ?_
              refine (AllReadyH.cons rfl (fun KK hK => ?_) (AllReadyH.cons rfl (fun KK hK => ?_) AllReadyH.nil))
              · obtain ⟨jn', v, ej, -, cv_, -⟩ := picked (w' := v0_17) (L := [255, 1, 3, 0]) HB.out (by omega : (0 : Int) ≤ (jn : Int)) (by simp; omega)
                obtain rfl : jn = jn' := by omega
                have hl_ := HB.out.1
                go_simp
                clear cv_ ej hl_
                refine hK.out _ _ (⟨by obtain ⟨q0, R0⟩ := HX.out; exact R0.1.1, trivial⟩) (fun hHeld => ?_)
                clear hK KK
                refine wpAnyH_ready (rs := [6]) (by kernel_rfl) (by simp) ?_
                refine (AllReadyH.cons rfl (fun KK hK => ?_) AllReadyH.nil)
                obtain ⟨q0, R0⟩ := HX.out
                have HR0 : Hid (Rd v0_17 r s n c q0) := R0.1
                have zr5 : r < wr.heap.size := by have := ZB.out; omega
                go_simp
                go_wp2_with (first | (go_at_call 44; refine (upto_any 6 (by decide) HR0).mono ?_; rintro e v0_19 ⟨a, p5, rfl, a0, a6, R5, b5⟩))
                replace HB : Hid (Blk v0_19 lb [.int .i64 255, .int .i64 1, .int .i64 3, .int .i64 0]) := HB.out.beside b5 (by omega)
                replace HP : Hid (Blk v0_19 lp [.int .i64 0, .int .i64 0]) := HP.out.beside b5 (by omega)
                replace HX : Hid (∃ q, LmS w v0_19 r B s n c lv nl cv nl q) := ⟨_, R0.call R5 b5⟩
                have z_v0_19 : wr.heap.size ≤ v0_19.heap.size := Nat.le_trans (by assumption) b5.2.2.2.1
                have wa6 : IntKind.i64.wrap (1 + a) = 1 + a := by rw [IntKind.wrap_i64]; omega
                clear R5 b5 R0 HR0
                refine hK.out _ _ (⟨by obtain ⟨q0, R0⟩ := HX.out; exact R0.1.1, trivial⟩) (fun hHeld => ?_)
                clear hK KK
                refine wpAnyH_take (i := 7) (v := .int .i64 (1 + a)) rfl (by kernel_rfl) (by kernel_rfl) (by kernel_rfl) (fun _ _ _ h => h) (Or.inl ⟨by kernel_rfl, ?_⟩) hHeld ?_
                · intro w' hSw
                  obtain ⟨hz0, htr⟩ := hSw
                  first | (go_simp; done) | (go_simp; with_reducible rfl) | (go_simp; rw [IntKind.wrap_i64]; omega) | (go_simp; omega)
                simp only [Act.put, List.setIfInBounds_toArray, List.set_cons_zero, List.set_cons_succ]
                refine wpAnyH_take (i := 8) (v := .agg #[.int .i64 v, .int .i64 (1 + a)]) rfl (by kernel_rfl) (by kernel_rfl) (by kernel_rfl) (fun _ _ _ h => h) (Or.inl ⟨by kernel_rfl, ?_⟩) hHeld ?_
                · intro w' hSw
                  obtain ⟨hz0, htr⟩ := hSw
                  first | (go_simp; done) | (go_simp; with_reducible rfl) | (go_simp; rw [IntKind.wrap_i64]; omega) | (go_simp; omega)
                simp only [Act.put, List.setIfInBounds_toArray, List.set_cons_zero, List.set_cons_succ]
                refine wpAnyH_ready (rs := [10]) (by kernel_rfl) (by simp) ?_
                refine (AllReadyH.cons rfl (fun KK hK => ?_) AllReadyH.nil)
                have t0 := HP.out.2.1 0
                have t1 := HP.out.2.1 1
                have tz := HP.out.1
                have d0 := HP.out.2.2 0 _ rfl
                have d1 := HP.out.2.2 1 _ rfl
                go_simp
                obtain ⟨v0_20, hv_⟩ : ∃ z, z = (v0_19.setCell ⟨lp, 0, none⟩ (.int .i64 v)).setCell ⟨lp, 1, none⟩ (.int .i64 (1 + a)) := ⟨_, rfl⟩
                rw [← hv_]
                have b5 : Beside lp v0_19 v0_20 := by rw [hv_]; exact (Beside.setCell lp v0_19 0 _).trans (Beside.setCell lp _ 1 _)
                replace HP : Hid (Blk v0_20 lp [.int .i64 v, .int .i64 (1 + a)]) := by show Blk _ _ _; rw [hv_]; exact (HP.out.set 0 _).set 1 _
                replace HX : Hid (∃ q, LmS w v0_20 r B s n c lv nl cv nl q) := by obtain ⟨q0, R0⟩ := HX.out; exact ⟨q0, R0.other b5 (by have := ZB.out; omega) (fun g hg => by have := ZL.out g hg; omega) (fun g hg => by have := ZC.out g hg; omega)⟩
                clear hv_ b5 t0 t1 tz d0 d1
                refine hK.out _ _ (⟨by obtain ⟨q0, R0⟩ := HX.out; exact R0.1.1, trivial⟩) (fun hHeld => ?_)
                clear hK KK
                refine wpAnyH_done (by kernel_rfl) ?_ _
                clear hHeld
                go_wp2_with fail
                go_meet
                exact ⟨lp, v, 1 + a, rfl, zlp, HX, HP⟩
              · obtain ⟨q0, R0⟩ := HX.out
                have HR0 : Hid (Rd v0_17 r s n c q0) := R0.1
                have zr5 : r < wr.heap.size := by have := ZB.out; omega
                go_simp
                go_wp2_with (first | (go_at_call 44; refine (upto_any 6 (by decide) HR0).mono ?_; rintro e v0_21 ⟨a, p5, rfl, a0, a6, R5, b5⟩))
                replace HB : Hid (Blk v0_21 lb [.int .i64 255, .int .i64 1, .int .i64 3, .int .i64 0]) := HB.out.beside b5 (by omega)
                replace HP : Hid (Blk v0_21 lp [.int .i64 0, .int .i64 0]) := HP.out.beside b5 (by omega)
                replace HX : Hid (∃ q, LmS w v0_21 r B s n c lv nl cv nl q) := ⟨_, R0.call R5 b5⟩
                have z_v0_21 : wr.heap.size ≤ v0_21.heap.size := Nat.le_trans (by assumption) b5.2.2.2.1
                have wa6 : IntKind.i64.wrap (1 + a) = 1 + a := by rw [IntKind.wrap_i64]; omega
                clear R5 b5 R0 HR0
                refine hK.out _ _ (⟨by obtain ⟨q0, R0⟩ := HX.out; exact R0.1.1, trivial⟩) (fun hHeld => ?_)
                clear hK KK
                refine wpAnyH_take (i := 7) (v := .int .i64 (1 + a)) rfl (by kernel_rfl) (by kernel_rfl) (by kernel_rfl) (fun _ _ _ h => h) (Or.inl ⟨by kernel_rfl, ?_⟩) hHeld ?_
                · intro w' hSw
                  obtain ⟨hz0, htr⟩ := hSw
                  first | (go_simp; done) | (go_simp; with_reducible rfl) | (go_simp; rw [IntKind.wrap_i64]; omega) | (go_simp; omega)
                simp only [Act.put, List.setIfInBounds_toArray, List.set_cons_zero, List.set_cons_succ]
                refine wpAnyH_ready (rs := [4]) (by kernel_rfl) (by simp) ?_
                refine (AllReadyH.cons rfl (fun KK hK => ?_) AllReadyH.nil)
                obtain ⟨jn', v, ej, -, cv_, -⟩ := picked (w' := v0_21) (L := [255, 1, 3, 0]) HB.out (by omega : (0 : Int) ≤ (jn : Int)) (by simp; omega)
                obtain rfl : jn = jn' := by omega
                have hl_ := HB.out.1
                go_simp
                clear cv_ ej hl_
                refine hK.out _ _ (⟨by obtain ⟨q0, R0⟩ := HX.out; exact R0.1.1, trivial⟩) (fun hHeld => ?_)
                clear hK KK
                refine wpAnyH_take (i := 8) (v := .agg #[.int .i64 v, .int .i64 (1 + a)]) rfl (by kernel_rfl) (by kernel_rfl) (by kernel_rfl) (fun _ _ _ h => h) (Or.inl ⟨by kernel_rfl, ?_⟩) hHeld ?_
                · intro w' hSw
                  obtain ⟨hz0, htr⟩ := hSw
                  first | (go_simp; done) | (go_simp; with_reducible rfl) | (go_simp; rw [IntKind.wrap_i64]; omega) | (go_simp; omega)
                simp only [Act.put, List.setIfInBounds_toArray, List.set_cons_zero, List.set_cons_succ]
                refine wpAnyH_ready (rs := [10]) (by kernel_rfl) (by simp) ?_
                refine (AllReadyH.cons rfl (fun KK hK => ?_) AllReadyH.nil)
                have t0 := HP.out.2.1 0
                have t1 := HP.out.2.1 1
                have tz := HP.out.1
                have d0 := HP.out.2.2 0 _ rfl
                have d1 := HP.out.2.2 1 _ rfl
                go_simp
                obtain ⟨v0_23, hv_⟩ : ∃ z, z = (v0_21.setCell ⟨lp, 0, none⟩ (.int .i64 v)).setCell ⟨lp, 1, none⟩ (.int .i64 (1 + a)) := ⟨_, rfl⟩
                rw [← hv_]
                have b5 : Beside lp v0_21 v0_23 := by rw [hv_]; exact (Beside.setCell lp v0_21 0 _).trans (Beside.setCell lp _ 1 _)
                replace HP : Hid (Blk v0_23 lp [.int .i64 v, .int .i64 (1 + a)]) := by show Blk _ _ _; rw [hv_]; exact (HP.out.set 0 _).set 1 _
                replace HX : Hid (∃ q, LmS w v0_23 r B s n c lv nl cv nl q) := by obtain ⟨q0, R0⟩ := HX.out; exact ⟨q0, R0.other b5 (by have := ZB.out; omega) (fun g hg => by have := ZL.out g hg; omega) (fun g hg => by have := ZC.out g hg; omega)⟩
                clear hv_ b5 t0 t1 tz d0 d1
                refine hK.out _ _ (⟨by obtain ⟨q0, R0⟩ := HX.out; exact R0.1.1, trivial⟩) (fun hHeld => ?_)
                clear hK KK
                refine wpAnyH_done (by kernel_rfl) ?_ _
                clear hHeld
                go_wp2_with fail
                go_meet
                exact ⟨lp, v, 1 + a, rfl, zlp, HX, HP⟩
          · go_simp
            obtain ⟨v0_24, hv_⟩ : ∃ z, z = v0_1.alloc (.cells #[.int .i64 0, .int .i64 0] 38) := ⟨_, rfl⟩
            rw [← hv_]
            obtain ⟨lp, hlp⟩ : ∃ z, z = v0_1.heap.size := ⟨_, rfl⟩
            have b5 : Below v0_1.heap.size v0_1 v0_24 := by rw [hv_]; exact below0 _ _
            have HP : Hid (Blk v0_24 lp [.int .i64 0, .int .i64 0]) := by rw [hv_, hlp]; exact Blk.new v0_1 #[.int .i64 0, .int .i64 0] _
            have zlp : wr.heap.size ≤ lp := by omega
            replace HB : Hid (Blk v0_24 lb [.int .i64 255, .int .i64 1, .int .i64 3, .int .i64 0]) := HB.out.below b5
            replace HX : Hid (∃ q, LmS w v0_24 r B s n c lv nl cv nl q) := by obtain ⟨q0, R0⟩ := HX.out; exact ⟨q0, R0.below b5⟩
            have z_v0_24 : wr.heap.size ≤ v0_24.heap.size := Nat.le_trans (by assumption) b5.size
            try rw [← hlp]
            clear hv_ hlp b5
            refine hK.out _ _ (⟨by obtain ⟨q0, R0⟩ := HX.out; exact R0.1.1, trivial⟩) (fun hHeld => ?_)
            clear hK KK
            refine wpAnyH_ready (rs := [2]) (by kernel_rfl) (by simp) ?_
            refine (AllReadyH.cons rfl (fun KK hK => ?_) AllReadyH.nil)
            obtain ⟨q0, R0⟩ := HX.out
            have HR0 : Hid (Rd v0_24 r s n c q0) := R0.1
            have zr5 : r < wr.heap.size := by have := ZB.out; omega
            go_simp
            go_wp2_with (first | (go_at_call 43; refine (below_any 4 HR0).mono ?_; rintro e v0_25 ⟨j5, p5, rfl, j0, -, jm, R5, b5⟩))
            replace HB : Hid (Blk v0_25 lb [.int .i64 255, .int .i64 1, .int .i64 3, .int .i64 0]) := HB.out.beside b5 (by omega)
            replace HP : Hid (Blk v0_25 lp [.int .i64 0, .int .i64 0]) := HP.out.beside b5 (by omega)
            replace HX : Hid (∃ q, LmS w v0_25 r B s n c lv nl cv nl q) := ⟨_, R0.call R5 b5⟩
            have z_v0_25 : wr.heap.size ≤ v0_25.heap.size := Nat.le_trans (by assumption) b5.2.2.2.1
            obtain ⟨jn, rfl⟩ : ∃ jn : Nat, j5 = jn := ⟨j5.toNat, by omega⟩
            have j4 : (jn : Int) < 4 := by omega
            clear jm
            clear R5 b5 R0 HR0
            refine hK.out _ _ (⟨by obtain ⟨q0, R0⟩ := HX.out; exact R0.1.1, trivial⟩) (fun hHeld => ?_)
            clear hK KK
            refine wpAnyH_take (i := 3) (v := .pointer (some ⟨lb, jn, none⟩)) rfl (by kernel_rfl) (by kernel_rfl) (by kernel_rfl) (fun _ _ _ h => h) (Or.inl ⟨by kernel_rfl, ?_⟩) hHeld ?_
            · intro w' hSw
              obtain ⟨hz0, htr⟩ := hSw
              first | (go_simp; done) | (go_simp; with_reducible rfl) | (go_simp; rw [IntKind.wrap_i64]; omega) | (go_simp; omega)
            simp only [Act.put, List.setIfInBounds_toArray, List.set_cons_zero, List.set_cons_succ]
            refine wpAnyH_ready (rs := [4, 6]) (by kernel_rfl) (by simp) ?_
            refine (AllReadyH.cons rfl (fun KK hK => ?_) (AllReadyH.cons rfl (fun KK hK => ?_) AllReadyH.nil))
            · obtain ⟨jn', v, ej, -, cv_, -⟩ := picked (w' := v0_25) (L := [255, 1, 3, 0]) HB.out (by omega : (0 : Int) ≤ (jn : Int)) (by simp; omega)
              obtain rfl : jn = jn' := by omega
              have hl_ := HB.out.1
              go_simp
              clear cv_ ej hl_
              refine hK.out _ _ (⟨by obtain ⟨q0, R0⟩ := HX.out; exact R0.1.1, trivial⟩) (fun hHeld => ?_)
              clear hK KK
              refine wpAnyH_ready (rs := [6]) (by kernel_rfl) (by simp) ?_
              refine (AllReadyH.cons rfl (fun KK hK => ?_) AllReadyH.nil)
              obtain ⟨q0, R0⟩ := HX.out
              have HR0 : Hid (Rd v0_25 r s n c q0) := R0.1
              have zr5 : r < wr.heap.size := by have := ZB.out; omega
              go_simp
              go_wp2_with (first | (go_at_call 44; refine (upto_any 6 (by decide) HR0).mono ?_; rintro e v0_27 ⟨a, p5, rfl, a0, a6, R5, b5⟩))
              replace HB : Hid (Blk v0_27 lb [.int .i64 255, .int .i64 1, .int .i64 3, .int .i64 0]) := HB.out.beside b5 (by omega)
              replace HP : Hid (Blk v0_27 lp [.int .i64 0, .int .i64 0]) := HP.out.beside b5 (by omega)
              replace HX : Hid (∃ q, LmS w v0_27 r B s n c lv nl cv nl q) := ⟨_, R0.call R5 b5⟩
              have z_v0_27 : wr.heap.size ≤ v0_27.heap.size := Nat.le_trans (by assumption) b5.2.2.2.1
              have wa6 : IntKind.i64.wrap (1 + a) = 1 + a := by rw [IntKind.wrap_i64]; omega
              clear R5 b5 R0 HR0
              refine hK.out _ _ (⟨by obtain ⟨q0, R0⟩ := HX.out; exact R0.1.1, trivial⟩) (fun hHeld => ?_)
              clear hK KK
              refine wpAnyH_take (i := 7) (v := .int .i64 (1 + a)) rfl (by kernel_rfl) (by kernel_rfl) (by kernel_rfl) (fun _ _ _ h => h) (Or.inl ⟨by kernel_rfl, ?_⟩) hHeld ?_
              · intro w' hSw
                obtain ⟨hz0, htr⟩ := hSw
                first | (go_simp; done) | (go_simp; with_reducible rfl) | (go_simp; rw [IntKind.wrap_i64]; omega) | (go_simp; omega)
              simp only [Act.put, List.setIfInBounds_toArray, List.set_cons_zero, List.set_cons_succ]
              refine wpAnyH_take (i := 8) (v := .agg #[.int .i64 v, .int .i64 (1 + a)]) rfl (by kernel_rfl) (by kernel_rfl) (by kernel_rfl) (fun _ _ _ h => h) (Or.inl ⟨by kernel_rfl, ?_⟩) hHeld ?_
              · intro w' hSw
                obtain ⟨hz0, htr⟩ := hSw
                first | (go_simp; done) | (go_simp; with_reducible rfl) | (go_simp; rw [IntKind.wrap_i64]; omega) | (go_simp; omega)
              simp only [Act.put, List.setIfInBounds_toArray, List.set_cons_zero, List.set_cons_succ]
              refine wpAnyH_ready (rs := [10]) (by kernel_rfl) (by simp) ?_
              refine (AllReadyH.cons rfl (fun KK hK => ?_) AllReadyH.nil)
              have t0 := HP.out.2.1 0
              have t1 := HP.out.2.1 1
              have tz := HP.out.1
              have d0 := HP.out.2.2 0 _ rfl
              have d1 := HP.out.2.2 1 _ rfl
              go_simp
              obtain ⟨v0_28, hv_⟩ : ∃ z, z = (v0_27.setCell ⟨lp, 0, none⟩ (.int .i64 v)).setCell ⟨lp, 1, none⟩ (.int .i64 (1 + a)) := ⟨_, rfl⟩
              rw [← hv_]
              have b5 : Beside lp v0_27 v0_28 := by rw [hv_]; exact (Beside.setCell lp v0_27 0 _).trans (Beside.setCell lp _ 1 _)
              replace HP : Hid (Blk v0_28 lp [.int .i64 v, .int .i64 (1 + a)]) := by show Blk _ _ _; rw [hv_]; exact (HP.out.set 0 _).set 1 _
              replace HX : Hid (∃ q, LmS w v0_28 r B s n c lv nl cv nl q) := by obtain ⟨q0, R0⟩ := HX.out; exact ⟨q0, R0.other b5 (by have := ZB.out; omega) (fun g hg => by have := ZL.out g hg; omega) (fun g hg => by have := ZC.out g hg; omega)⟩
              clear hv_ b5 t0 t1 tz d0 d1
              refine hK.out _ _ (⟨by obtain ⟨q0, R0⟩ := HX.out; exact R0.1.1, trivial⟩) (fun hHeld => ?_)
              clear hK KK
              refine wpAnyH_done (by kernel_rfl) ?_ _
              clear hHeld
              go_wp2_with fail
              go_meet
              exact ⟨lp, v, 1 + a, rfl, zlp, HX, HP⟩
            · obtain ⟨q0, R0⟩ := HX.out
              have HR0 : Hid (Rd v0_25 r s n c q0) := R0.1
              have zr5 : r < wr.heap.size := by have := ZB.out; omega
              go_simp
              go_wp2_with (first | (go_at_call 44; refine (upto_any 6 (by decide) HR0).mono ?_; rintro e v0_29 ⟨a, p5, rfl, a0, a6, R5, b5⟩))
              replace HB : Hid (Blk v0_29 lb [.int .i64 255, .int .i64 1, .int .i64 3, .int .i64 0]) := HB.out.beside b5 (by omega)
              replace HP : Hid (Blk v0_29 lp [.int .i64 0, .int .i64 0]) := HP.out.beside b5 (by omega)
              replace HX : Hid (∃ q, LmS w v0_29 r B s n c lv nl cv nl q) := ⟨_, R0.call R5 b5⟩
              have z_v0_29 : wr.heap.size ≤ v0_29.heap.size := Nat.le_trans (by assumption) b5.2.2.2.1
              have wa6 : IntKind.i64.wrap (1 + a) = 1 + a := by rw [IntKind.wrap_i64]; omega
              clear R5 b5 R0 HR0
              refine hK.out _ _ (⟨by obtain ⟨q0, R0⟩ := HX.out; exact R0.1.1, trivial⟩) (fun hHeld => ?_)
              clear hK KK
              refine wpAnyH_take (i := 7) (v := .int .i64 (1 + a)) rfl (by kernel_rfl) (by kernel_rfl) (by kernel_rfl) (fun _ _ _ h => h) (Or.inl ⟨by kernel_rfl, ?_⟩) hHeld ?_
              · intro w' hSw
                obtain ⟨hz0, htr⟩ := hSw
                first | (go_simp; done) | (go_simp; with_reducible rfl) | (go_simp; rw [IntKind.wrap_i64]; omega) | (go_simp; omega)
              simp only [Act.put, List.setIfInBounds_toArray, List.set_cons_zero, List.set_cons_succ]
              refine wpAnyH_ready (rs := [4]) (by kernel_rfl) (by simp) ?_
              refine (AllReadyH.cons rfl (fun KK hK => ?_) AllReadyH.nil)
              obtain ⟨jn', v, ej, -, cv_, -⟩ := picked (w' := v0_29) (L := [255, 1, 3, 0]) HB.out (by omega : (0 : Int) ≤ (jn : Int)) (by simp; omega)
              obtain rfl : jn = jn' := by omega
              have hl_ := HB.out.1
              go_simp
              clear cv_ ej hl_
              refine hK.out _ _ (⟨by obtain ⟨q0, R0⟩ := HX.out; exact R0.1.1, trivial⟩) (fun hHeld => ?_)
              clear hK KK
              refine wpAnyH_take (i := 8) (v := .agg #[.int .i64 v, .int .i64 (1 + a)]) rfl (by kernel_rfl) (by kernel_rfl) (by kernel_rfl) (fun _ _ _ h => h) (Or.inl ⟨by kernel_rfl, ?_⟩) hHeld ?_
              · intro w' hSw
                obtain ⟨hz0, htr⟩ := hSw
                first | (go_simp; done) | (go_simp; with_reducible rfl) | (go_simp; rw [IntKind.wrap_i64]; omega) | (go_simp; omega)
              simp only [Act.put, List.setIfInBounds_toArray, List.set_cons_zero, List.set_cons_succ]
              refine wpAnyH_ready (rs := [10]) (by kernel_rfl) (by simp) ?_
              refine (AllReadyH.cons rfl (fun KK hK => ?_) AllReadyH.nil)
              have t0 := HP.out.2.1 0
              have t1 := HP.out.2.1 1
              have tz := HP.out.1
              have d0 := HP.out.2.2 0 _ rfl
              have d1 := HP.out.2.2 1 _ rfl
              go_simp
              obtain ⟨v0_31, hv_⟩ : ∃ z, z = (v0_29.setCell ⟨lp, 0, none⟩ (.int .i64 v)).setCell ⟨lp, 1, none⟩ (.int .i64 (1 + a)) := ⟨_, rfl⟩
              rw [← hv_]
              have b5 : Beside lp v0_29 v0_31 := by rw [hv_]; exact (Beside.setCell lp v0_29 0 _).trans (Beside.setCell lp _ 1 _)
              replace HP : Hid (Blk v0_31 lp [.int .i64 v, .int .i64 (1 + a)]) := by show Blk _ _ _; rw [hv_]; exact (HP.out.set 0 _).set 1 _
              replace HX : Hid (∃ q, LmS w v0_31 r B s n c lv nl cv nl q) := by obtain ⟨q0, R0⟩ := HX.out; exact ⟨q0, R0.other b5 (by have := ZB.out; omega) (fun g hg => by have := ZL.out g hg; omega) (fun g hg => by have := ZC.out g hg; omega)⟩
              clear hv_ b5 t0 t1 tz d0 d1
              refine hK.out _ _ (⟨by obtain ⟨q0, R0⟩ := HX.out; exact R0.1.1, trivial⟩) (fun hHeld => ?_)
              clear hK KK
              refine wpAnyH_done (by kernel_rfl) ?_ _
              clear hHeld
              go_wp2_with fail
              go_meet
              exact ⟨lp, v, 1 + a, rfl, zlp, HX, HP⟩
        · obtain ⟨q0, R0⟩ := HX.out
          have HR0 : Hid (Rd v0 r s n c q0) := R0.1
          have zr5 : r < wr.heap.size := by have := ZB.out; omega
          go_simp
          go_wp2_with (first | (go_at_call 43; refine (below_any 4 HR0).mono ?_; rintro e v0_32 ⟨j5, p5, rfl, j0, -, jm, R5, b5⟩))
          replace HX : Hid (∃ q, LmS w v0_32 r B s n c lv nl cv nl q) := ⟨_, R0.call R5 b5⟩
          have z_v0_32 : wr.heap.size ≤ v0_32.heap.size := Nat.le_trans (by assumption) b5.2.2.2.1
          obtain ⟨jn, rfl⟩ : ∃ jn : Nat, j5 = jn := ⟨j5.toNat, by omega⟩
          have j4 : (jn : Int) < 4 := by omega
          clear jm
          clear R5 b5 R0 HR0
          refine hK.out _ _ (⟨by obtain ⟨q0, R0⟩ := HX.out; exact R0.1.1, trivial⟩) (fun hHeld => ?_)
          clear hK KK
          refine wpAnyH_ready (rs := [0, 6, 9]) (by kernel_rfl) (by simp) ?_
          refine (AllReadyH.cons rfl (fun KK hK => ?_) (AllReadyH.cons rfl (fun KK hK => ?_) (AllReadyH.cons rfl (fun KK hK => ?_) AllReadyH.nil)))
          · go_simp
            obtain ⟨v0_33, hv_⟩ : ∃ z, z = v0_32.alloc (.cells #[.int .i64 255, .int .i64 1, .int .i64 3, .int .i64 0] 3) := ⟨_, rfl⟩
            rw [← hv_]
            obtain ⟨lb, hlb⟩ : ∃ z, z = v0_32.heap.size := ⟨_, rfl⟩
            have b5 : Below v0_32.heap.size v0_32 v0_33 := by rw [hv_]; exact below0 _ _
            have HB : Hid (Blk v0_33 lb [.int .i64 255, .int .i64 1, .int .i64 3, .int .i64 0]) := by rw [hv_, hlb]; exact Blk.new v0_32 #[.int .i64 255, .int .i64 1, .int .i64 3, .int .i64 0] _
            have zlb : wr.heap.size ≤ lb := by omega
            replace HX : Hid (∃ q, LmS w v0_33 r B s n c lv nl cv nl q) := by obtain ⟨q0, R0⟩ := HX.out; exact ⟨q0, R0.below b5⟩
            have z_v0_33 : wr.heap.size ≤ v0_33.heap.size := Nat.le_trans (by assumption) b5.size
            try rw [← hlb]
            clear hv_ hlb b5
            refine hK.out _ _ (⟨by obtain ⟨q0, R0⟩ := HX.out; exact R0.1.1, trivial⟩) (fun hHeld => ?_)
            clear hK KK
            refine wpAnyH_take (i := 3) (v := .pointer (some ⟨lb, jn, none⟩)) rfl (by kernel_rfl) (by kernel_rfl) (by kernel_rfl) (fun _ _ _ h => h) (Or.inl ⟨by kernel_rfl, ?_⟩) hHeld ?_
            · intro w' hSw
              obtain ⟨hz0, htr⟩ := hSw
              first | (go_simp; done) | (go_simp; with_reducible rfl) | (go_simp; rw [IntKind.wrap_i64]; omega) | (go_simp; omega)
            simp only [Act.put, List.setIfInBounds_toArray, List.set_cons_zero, List.set_cons_succ]
            refine wpAnyH_ready (rs := [4, 6, 9]) (by kernel_rfl) (by simp) ?_
            refine (AllReadyH.cons rfl (fun KK hK => ?_) (AllReadyH.cons rfl (fun KK hK => ?_) (AllReadyH.cons rfl (fun KK hK => ?_) AllReadyH.nil)))
            · obtain ⟨jn', v, ej, -, cv_, -⟩ := picked (w' := v0_33) (L := [255, 1, 3, 0]) HB.out (by omega : (0 : Int) ≤ (jn : Int)) (by simp; omega)
              obtain rfl : jn = jn' := by omega
              have hl_ := HB.out.1
              go_simp
              clear cv_ ej hl_
              refine hK.out _ _ (⟨by obtain ⟨q0, R0⟩ := HX.out; exact R0.1.1, trivial⟩) (fun hHeld => ?_)
              clear hK KK
              refine wpAnyH_ready (rs := [6, 9]) (by kernel_rfl) (by simp) ?_
              refine (AllReadyH.cons rfl (fun KK hK => ?_) (AllReadyH.cons rfl (fun KK hK => ?_) AllReadyH.nil))
              · obtain ⟨q0, R0⟩ := HX.out
                have HR0 : Hid (Rd v0_33 r s n c q0) := R0.1
                have zr5 : r < wr.heap.size := by have := ZB.out; omega
                go_simp
                go_wp2_with (first | (go_at_call 44; refine (upto_any 6 (by decide) HR0).mono ?_; rintro e v0_35 ⟨a, p5, rfl, a0, a6, R5, b5⟩))
                replace HB : Hid (Blk v0_35 lb [.int .i64 255, .int .i64 1, .int .i64 3, .int .i64 0]) := HB.out.beside b5 (by omega)
                replace HX : Hid (∃ q, LmS w v0_35 r B s n c lv nl cv nl q) := ⟨_, R0.call R5 b5⟩
                have z_v0_35 : wr.heap.size ≤ v0_35.heap.size := Nat.le_trans (by assumption) b5.2.2.2.1
                have wa6 : IntKind.i64.wrap (1 + a) = 1 + a := by rw [IntKind.wrap_i64]; omega
                clear R5 b5 R0 HR0
                refine hK.out _ _ (⟨by obtain ⟨q0, R0⟩ := HX.out; exact R0.1.1, trivial⟩) (fun hHeld => ?_)
                clear hK KK
                refine wpAnyH_take (i := 7) (v := .int .i64 (1 + a)) rfl (by kernel_rfl) (by kernel_rfl) (by kernel_rfl) (fun _ _ _ h => h) (Or.inl ⟨by kernel_rfl, ?_⟩) hHeld ?_
                · intro w' hSw
                  obtain ⟨hz0, htr⟩ := hSw
                  first | (go_simp; done) | (go_simp; with_reducible rfl) | (go_simp; rw [IntKind.wrap_i64]; omega) | (go_simp; omega)
                simp only [Act.put, List.setIfInBounds_toArray, List.set_cons_zero, List.set_cons_succ]
                refine wpAnyH_take (i := 8) (v := .agg #[.int .i64 v, .int .i64 (1 + a)]) rfl (by kernel_rfl) (by kernel_rfl) (by kernel_rfl) (fun _ _ _ h => h) (Or.inl ⟨by kernel_rfl, ?_⟩) hHeld ?_
                · intro w' hSw
                  obtain ⟨hz0, htr⟩ := hSw
                  first | (go_simp; done) | (go_simp; with_reducible rfl) | (go_simp; rw [IntKind.wrap_i64]; omega) | (go_simp; omega)
                simp only [Act.put, List.setIfInBounds_toArray, List.set_cons_zero, List.set_cons_succ]
                refine wpAnyH_ready (rs := [9]) (by kernel_rfl) (by simp) ?_
                refine (AllReadyH.cons rfl (fun KK hK => ?_) AllReadyH.nil)
                go_simp
                obtain ⟨v0_36, hv_⟩ : ∃ z, z = v0_35.alloc (.cells #[.int .i64 0, .int .i64 0] 38) := ⟨_, rfl⟩
                rw [← hv_]
                obtain ⟨lp, hlp⟩ : ∃ z, z = v0_35.heap.size := ⟨_, rfl⟩
                have b5 : Below v0_35.heap.size v0_35 v0_36 := by rw [hv_]; exact below0 _ _
                have HP : Hid (Blk v0_36 lp [.int .i64 0, .int .i64 0]) := by rw [hv_, hlp]; exact Blk.new v0_35 #[.int .i64 0, .int .i64 0] _
                have zlp : wr.heap.size ≤ lp := by omega
                replace HB : Hid (Blk v0_36 lb [.int .i64 255, .int .i64 1, .int .i64 3, .int .i64 0]) := HB.out.below b5
                replace HX : Hid (∃ q, LmS w v0_36 r B s n c lv nl cv nl q) := by obtain ⟨q0, R0⟩ := HX.out; exact ⟨q0, R0.below b5⟩
                have z_v0_36 : wr.heap.size ≤ v0_36.heap.size := Nat.le_trans (by assumption) b5.size
                try rw [← hlp]
                clear hv_ hlp b5
                refine hK.out _ _ (⟨by obtain ⟨q0, R0⟩ := HX.out; exact R0.1.1, trivial⟩) (fun hHeld => ?_)
                clear hK KK
                refine wpAnyH_ready (rs := [10]) (by kernel_rfl) (by simp) ?_
                refine (AllReadyH.cons rfl (fun KK hK => ?_) AllReadyH.nil)
                have t0 := HP.out.2.1 0
                have t1 := HP.out.2.1 1
                have tz := HP.out.1
                have d0 := HP.out.2.2 0 _ rfl
                have d1 := HP.out.2.2 1 _ rfl
                go_simp
                obtain ⟨v0_37, hv_⟩ : ∃ z, z = (v0_36.setCell ⟨lp, 0, none⟩ (.int .i64 v)).setCell ⟨lp, 1, none⟩ (.int .i64 (1 + a)) := ⟨_, rfl⟩
                rw [← hv_]
                have b5 : Beside lp v0_36 v0_37 := by rw [hv_]; exact (Beside.setCell lp v0_36 0 _).trans (Beside.setCell lp _ 1 _)
                replace HP : Hid (Blk v0_37 lp [.int .i64 v, .int .i64 (1 + a)]) := by show Blk _ _ _; rw [hv_]; exact (HP.out.set 0 _).set 1 _
                replace HX : Hid (∃ q, LmS w v0_37 r B s n c lv nl cv nl q) := by obtain ⟨q0, R0⟩ := HX.out; exact ⟨q0, R0.other b5 (by have := ZB.out; omega) (fun g hg => by have := ZL.out g hg; omega) (fun g hg => by have := ZC.out g hg; omega)⟩
                clear hv_ b5 t0 t1 tz d0 d1
                refine hK.out _ _ (⟨by obtain ⟨q0, R0⟩ := HX.out; exact R0.1.1, trivial⟩) (fun hHeld => ?_)
                clear hK KK
                refine wpAnyH_done (by kernel_rfl) ?_ _
                clear hHeld
                go_wp2_with fail
                go_meet
                exact ⟨lp, v, 1 + a, rfl, zlp, HX, HP⟩
              · go_simp
                obtain ⟨v0_38, hv_⟩ : ∃ z, z = v0_33.alloc (.cells #[.int .i64 0, .int .i64 0] 38) := ⟨_, rfl⟩
                rw [← hv_]
                obtain ⟨lp, hlp⟩ : ∃ z, z = v0_33.heap.size := ⟨_, rfl⟩
                have b5 : Below v0_33.heap.size v0_33 v0_38 := by rw [hv_]; exact below0 _ _
                have HP : Hid (Blk v0_38 lp [.int .i64 0, .int .i64 0]) := by rw [hv_, hlp]; exact Blk.new v0_33 #[.int .i64 0, .int .i64 0] _
                have zlp : wr.heap.size ≤ lp := by omega
                replace HB : Hid (Blk v0_38 lb [.int .i64 255, .int .i64 1, .int .i64 3, .int .i64 0]) := HB.out.below b5
                replace HX : Hid (∃ q, LmS w v0_38 r B s n c lv nl cv nl q) := by obtain ⟨q0, R0⟩ := HX.out; exact ⟨q0, R0.below b5⟩
                have z_v0_38 : wr.heap.size ≤ v0_38.heap.size := Nat.le_trans (by assumption) b5.size
                try rw [← hlp]
                clear hv_ hlp b5
                refine hK.out _ _ (⟨by obtain ⟨q0, R0⟩ := HX.out; exact R0.1.1, trivial⟩) (fun hHeld => ?_)
                clear hK KK
                refine wpAnyH_ready (rs := [6]) (by kernel_rfl) (by simp) ?_
                refine (AllReadyH.cons rfl (fun KK hK => ?_) AllReadyH.nil)
                obtain ⟨q0, R0⟩ := HX.out
                have HR0 : Hid (Rd v0_38 r s n c q0) := R0.1
                have zr5 : r < wr.heap.size := by have := ZB.out; omega
                go_simp
                go_wp2_with (first | (go_at_call 44; refine (upto_any 6 (by decide) HR0).mono ?_; rintro e v0_39 ⟨a, p5, rfl, a0, a6, R5, b5⟩))
                replace HB : Hid (Blk v0_39 lb [.int .i64 255, .int .i64 1, .int .i64 3, .int .i64 0]) := HB.out.beside b5 (by omega)
                replace HP : Hid (Blk v0_39 lp [.int .i64 0, .int .i64 0]) := HP.out.beside b5 (by omega)
                replace HX : Hid (∃ q, LmS w v0_39 r B s n c lv nl cv nl q) := ⟨_, R0.call R5 b5⟩
                have z_v0_39 : wr.heap.size ≤ v0_39.heap.size := Nat.le_trans (by assumption) b5.2.2.2.1
                have wa6 : IntKind.i64.wrap (1 + a) = 1 + a := by rw [IntKind.wrap_i64]; omega
                clear R5 b5 R0 HR0
                refine hK.out _ _ (⟨by obtain ⟨q0, R0⟩ := HX.out; exact R0.1.1, trivial⟩) (fun hHeld => ?_)
                clear hK KK
                refine wpAnyH_take (i := 7) (v := .int .i64 (1 + a)) rfl (by kernel_rfl) (by kernel_rfl) (by kernel_rfl) (fun _ _ _ h => h) (Or.inl ⟨by kernel_rfl, ?_⟩) hHeld ?_
                · intro w' hSw
                  obtain ⟨hz0, htr⟩ := hSw
                  first | (go_simp; done) | (go_simp; with_reducible rfl) | (go_simp; rw [IntKind.wrap_i64]; omega) | (go_simp; omega)
                simp only [Act.put, List.setIfInBounds_toArray, List.set_cons_zero, List.set_cons_succ]
                refine wpAnyH_take (i := 8) (v := .agg #[.int .i64 v, .int .i64 (1 + a)]) rfl (by kernel_rfl) (by kernel_rfl) (by kernel_rfl) (fun _ _ _ h => h) (Or.inl ⟨by kernel_rfl, ?_⟩) hHeld ?_
                · intro w' hSw
                  obtain ⟨hz0, htr⟩ := hSw
                  first | (go_simp; done) | (go_simp; with_reducible rfl) | (go_simp; rw [IntKind.wrap_i64]; omega) | (go_simp; omega)
                simp only [Act.put, List.setIfInBounds_toArray, List.set_cons_zero, List.set_cons_succ]
                refine wpAnyH_ready (rs := [10]) (by kernel_rfl) (by simp) ?_
                refine (AllReadyH.cons rfl (fun KK hK => ?_) AllReadyH.nil)
                have t0 := HP.out.2.1 0
                have t1 := HP.out.2.1 1
                have tz := HP.out.1
                have d0 := HP.out.2.2 0 _ rfl
                have d1 := HP.out.2.2 1 _ rfl
                go_simp
                obtain ⟨v0_40, hv_⟩ : ∃ z, z = (v0_39.setCell ⟨lp, 0, none⟩ (.int .i64 v)).setCell ⟨lp, 1, none⟩ (.int .i64 (1 + a)) := ⟨_, rfl⟩
                rw [← hv_]
                have b5 : Beside lp v0_39 v0_40 := by rw [hv_]; exact (Beside.setCell lp v0_39 0 _).trans (Beside.setCell lp _ 1 _)
                replace HP : Hid (Blk v0_40 lp [.int .i64 v, .int .i64 (1 + a)]) := by show Blk _ _ _; rw [hv_]; exact (HP.out.set 0 _).set 1 _
                replace HX : Hid (∃ q, LmS w v0_40 r B s n c lv nl cv nl q) := by obtain ⟨q0, R0⟩ := HX.out; exact ⟨q0, R0.other b5 (by have := ZB.out; omega) (fun g hg => by have := ZL.out g hg; omega) (fun g hg => by have := ZC.out g hg; omega)⟩
                clear hv_ b5 t0 t1 tz d0 d1
                refine hK.out _ _ (⟨by obtain ⟨q0, R0⟩ := HX.out; exact R0.1.1, trivial⟩) (fun hHeld => ?_)
                clear hK KK
                refine wpAnyH_done (by kernel_rfl) ?_ _
                clear hHeld
                go_wp2_with fail
                go_meet
                exact ⟨lp, v, 1 + a, rfl, zlp, HX, HP⟩
            · obtain ⟨q0, R0⟩ := HX.out
              have HR0 : Hid (Rd v0_33 r s n c q0) := R0.1
              have zr5 : r < wr.heap.size := by have := ZB.out; omega
              go_simp
              go_wp2_with (first | (go_at_call 44; refine (upto_any 6 (by decide) HR0).mono ?_; rintro e v0_41 ⟨a, p5, rfl, a0, a6, R5, b5⟩))
              replace HB : Hid (Blk v0_41 lb [.int .i64 255, .int .i64 1, .int .i64 3, .int .i64 0]) := HB.out.beside b5 (by omega)
              replace HX : Hid (∃ q, LmS w v0_41 r B s n c lv nl cv nl q) := ⟨_, R0.call R5 b5⟩
              have z_v0_41 : wr.heap.size ≤ v0_41.heap.size := Nat.le_trans (by assumption) b5.2.2.2.1
              have wa6 : IntKind.i64.wrap (1 + a) = 1 + a := by rw [IntKind.wrap_i64]; omega
              clear R5 b5 R0 HR0
              refine hK.out _ _ (⟨by obtain ⟨q0, R0⟩ := HX.out; exact R0.1.1, trivial⟩) (fun hHeld => ?_)
              clear hK KK
              refine wpAnyH_take (i := 7) (v := .int .i64 (1 + a)) rfl (by kernel_rfl) (by kernel_rfl) (by kernel_rfl) (fun _ _ _ h => h) (Or.inl ⟨by kernel_rfl, ?_⟩) hHeld ?_
              · intro w' hSw
                obtain ⟨hz0, htr⟩ := hSw
                first | (go_simp; done) | (go_simp; with_reducible rfl) | (go_simp; rw [IntKind.wrap_i64]; omega) | (go_simp; omega)
              simp only [Act.put, List.setIfInBounds_toArray, List.set_cons_zero, List.set_cons_succ]
              refine wpAnyH_ready (rs := [4, 9]) (by kernel_rfl) (by simp) ?_
              refine (AllReadyH.cons rfl (fun KK hK => ?_) (AllReadyH.cons rfl (fun KK hK => ?_) AllReadyH.nil))
              · obtain ⟨jn', v, ej, -, cv_, -⟩ := picked (w' := v0_41) (L := [255, 1, 3, 0]) HB.out (by omega : (0 : Int) ≤ (jn : Int)) (by simp; omega)
                obtain rfl : jn = jn' := by omega
                have hl_ := HB.out.1
                go_simp
                clear cv_ ej hl_
                refine hK.out _ _ (⟨by obtain ⟨q0, R0⟩ := HX.out; exact R0.1.1, trivial⟩) (fun hHeld => ?_)
                clear hK KK
                refine wpAnyH_take (i := 8) (v := .agg #[.int .i64 v, .int .i64 (1 + a)]) rfl (by kernel_rfl) (by kernel_rfl) (by kernel_rfl) (fun _ _ _ h => h) (Or.inl ⟨by kernel_rfl, ?_⟩) hHeld ?_
                · intro w' hSw
                  obtain ⟨hz0, htr⟩ := hSw
                  first | (go_simp; done) | (go_simp; with_reducible rfl) | (go_simp; rw [IntKind.wrap_i64]; omega) | (go_simp; omega)
                simp only [Act.put, List.setIfInBounds_toArray, List.set_cons_zero, List.set_cons_succ]
                refine wpAnyH_ready (rs := [9]) (by kernel_rfl) (by simp) ?_
                refine (AllReadyH.cons rfl (fun KK hK => ?_) AllReadyH.nil)
                go_simp
                obtain ⟨v0_43, hv_⟩ : ∃ z, z = v0_41.alloc (.cells #[.int .i64 0, .int .i64 0] 38) := ⟨_, rfl⟩
                rw [← hv_]
                obtain ⟨lp, hlp⟩ : ∃ z, z = v0_41.heap.size := ⟨_, rfl⟩
                have b5 : Below v0_41.heap.size v0_41 v0_43 := by rw [hv_]; exact below0 _ _
                have HP : Hid (Blk v0_43 lp [.int .i64 0, .int .i64 0]) := by rw [hv_, hlp]; exact Blk.new v0_41 #[.int .i64 0, .int .i64 0] _
                have zlp : wr.heap.size ≤ lp := by omega
                replace HB : Hid (Blk v0_43 lb [.int .i64 255, .int .i64 1, .int .i64 3, .int .i64 0]) := HB.out.below b5
                replace HX : Hid (∃ q, LmS w v0_43 r B s n c lv nl cv nl q) := by obtain ⟨q0, R0⟩ := HX.out; exact ⟨q0, R0.below b5⟩
                have z_v0_43 : wr.heap.size ≤ v0_43.heap.size := Nat.le_trans (by assumption) b5.size
                try rw [← hlp]
                clear hv_ hlp b5
                refine hK.out _ _ (⟨by obtain ⟨q0, R0⟩ := HX.out; exact R0.1.1, trivial⟩) (fun hHeld => ?_)
                clear hK KK
                refine wpAnyH_ready (rs := [10]) (by kernel_rfl) (by simp) ?_
                refine (AllReadyH.cons rfl (fun KK hK => ?_) AllReadyH.nil)
                have t0 := HP.out.2.1 0
                have t1 := HP.out.2.1 1
                have tz := HP.out.1
                have d0 := HP.out.2.2 0 _ rfl
                have d1 := HP.out.2.2 1 _ rfl
                go_simp
                obtain ⟨v0_44, hv_⟩ : ∃ z, z = (v0_43.setCell ⟨lp, 0, none⟩ (.int .i64 v)).setCell ⟨lp, 1, none⟩ (.int .i64 (1 + a)) := ⟨_, rfl⟩
                rw [← hv_]
                have b5 : Beside lp v0_43 v0_44 := by rw [hv_]; exact (Beside.setCell lp v0_43 0 _).trans (Beside.setCell lp _ 1 _)
                replace HP : Hid (Blk v0_44 lp [.int .i64 v, .int .i64 (1 + a)]) := by show Blk _ _ _; rw [hv_]; exact (HP.out.set 0 _).set 1 _
                replace HX : Hid (∃ q, LmS w v0_44 r B s n c lv nl cv nl q) := by obtain ⟨q0, R0⟩ := HX.out; exact ⟨q0, R0.other b5 (by have := ZB.out; omega) (fun g hg => by have := ZL.out g hg; omega) (fun g hg => by have := ZC.out g hg; omega)⟩
                clear hv_ b5 t0 t1 tz d0 d1
                refine hK.out _ _ (⟨by obtain ⟨q0, R0⟩ := HX.out; exact R0.1.1, trivial⟩) (fun hHeld => ?_)
                clear hK KK
                refine wpAnyH_done (by kernel_rfl) ?_ _
                clear hHeld
                go_wp2_with fail
                go_meet
                exact ⟨lp, v, 1 + a, rfl, zlp, HX, HP⟩
              · go_simp
                obtain ⟨v0_45, hv_⟩ : ∃ z, z = v0_41.alloc (.cells #[.int .i64 0, .int .i64 0] 38) := ⟨_, rfl⟩
                rw [← hv_]
                obtain ⟨lp, hlp⟩ : ∃ z, z = v0_41.heap.size := ⟨_, rfl⟩
                have b5 : Below v0_41.heap.size v0_41 v0_45 := by rw [hv_]; exact below0 _ _
                have HP : Hid (Blk v0_45 lp [.int .i64 0, .int .i64 0]) := by rw [hv_, hlp]; exact Blk.new v0_41 #[.int .i64 0, .int .i64 0] _
                have zlp : wr.heap.size ≤ lp := by omega
                replace HB : Hid (Blk v0_45 lb [.int .i64 255, .int .i64 1, .int .i64 3, .int .i64 0]) := HB.out.below b5
                replace HX : Hid (∃ q, LmS w v0_45 r B s n c lv nl cv nl q) := by obtain ⟨q0, R0⟩ := HX.out; exact ⟨q0, R0.below b5⟩
                have z_v0_45 : wr.heap.size ≤ v0_45.heap.size := Nat.le_trans (by assumption) b5.size
                try rw [← hlp]
                clear hv_ hlp b5
                refine hK.out _ _ (⟨by obtain ⟨q0, R0⟩ := HX.out; exact R0.1.1, trivial⟩) (fun hHeld => ?_)
                clear hK KK
                refine wpAnyH_ready (rs := [4]) (by kernel_rfl) (by simp) ?_
                refine (AllReadyH.cons rfl (fun KK hK => ?_) AllReadyH.nil)
                obtain ⟨jn', v, ej, -, cv_, -⟩ := picked (w' := v0_45) (L := [255, 1, 3, 0]) HB.out (by omega : (0 : Int) ≤ (jn : Int)) (by simp; omega)
                obtain rfl : jn = jn' := by omega
                have hl_ := HB.out.1
                go_simp
                clear cv_ ej hl_
                refine hK.out _ _ (⟨by obtain ⟨q0, R0⟩ := HX.out; exact R0.1.1, trivial⟩) (fun hHeld => ?_)
                clear hK KK
                refine wpAnyH_take (i := 8) (v := .agg #[.int .i64 v, .int .i64 (1 + a)]) rfl (by kernel_rfl) (by kernel_rfl) (by kernel_rfl) (fun _ _ _ h => h) (Or.inl ⟨by kernel_rfl, ?_⟩) hHeld ?_
                · intro w' hSw
                  obtain ⟨hz0, htr⟩ := hSw
                  first | (go_simp; done) | (go_simp; with_reducible rfl) | (go_simp; rw [IntKind.wrap_i64]; omega) | (go_simp; omega)
                simp only [Act.put, List.setIfInBounds_toArray, List.set_cons_zero, List.set_cons_succ]
                refine wpAnyH_ready (rs := [10]) (by kernel_rfl) (by simp) ?_
                refine (AllReadyH.cons rfl (fun KK hK => ?_) AllReadyH.nil)
                have t0 := HP.out.2.1 0
                have t1 := HP.out.2.1 1
                have tz := HP.out.1
                have d0 := HP.out.2.2 0 _ rfl
                have d1 := HP.out.2.2 1 _ rfl
                go_simp
                obtain ⟨v0_47, hv_⟩ : ∃ z, z = (v0_45.setCell ⟨lp, 0, none⟩ (.int .i64 v)).setCell ⟨lp, 1, none⟩ (.int .i64 (1 + a)) := ⟨_, rfl⟩
                rw [← hv_]
                have b5 : Beside lp v0_45 v0_47 := by rw [hv_]; exact (Beside.setCell lp v0_45 0 _).trans (Beside.setCell lp _ 1 _)
                replace HP : Hid (Blk v0_47 lp [.int .i64 v, .int .i64 (1 + a)]) := by show Blk _ _ _; rw [hv_]; exact (HP.out.set 0 _).set 1 _
                replace HX : Hid (∃ q, LmS w v0_47 r B s n c lv nl cv nl q) := by obtain ⟨q0, R0⟩ := HX.out; exact ⟨q0, R0.other b5 (by have := ZB.out; omega) (fun g hg => by have := ZL.out g hg; omega) (fun g hg => by have := ZC.out g hg; omega)⟩
                clear hv_ b5 t0 t1 tz d0 d1
                refine hK.out _ _ (⟨by obtain ⟨q0, R0⟩ := HX.out; exact R0.1.1, trivial⟩) (fun hHeld => ?_)
                clear hK KK
                refine wpAnyH_done (by kernel_rfl) ?_ _
                clear hHeld
                go_wp2_with fail
                go_meet
                exact ⟨lp, v, 1 + a, rfl, zlp, HX, HP⟩
            · go_simp
              obtain ⟨v0_48, hv_⟩ : ∃ z, z = v0_33.alloc (.cells #[.int .i64 0, .int .i64 0] 38) := ⟨_, rfl⟩
              rw [← hv_]
              obtain ⟨lp, hlp⟩ : ∃ z, z = v0_33.heap.size := ⟨_, rfl⟩
              have b5 : Below v0_33.heap.size v0_33 v0_48 := by rw [hv_]; exact below0 _ _
              have HP : Hid (Blk v0_48 lp [.int .i64 0, .int .i64 0]) := by rw [hv_, hlp]; exact Blk.new v0_33 #[.int .i64 0, .int .i64 0] _
              have zlp : wr.heap.size ≤ lp := by omega
              replace HB : Hid (Blk v0_48 lb [.int .i64 255, .int .i64 1, .int .i64 3, .int .i64 0]) := HB.out.below b5
              replace HX : Hid (∃ q, LmS w v0_48 r B s n c lv nl cv nl q) := by obtain ⟨q0, R0⟩ := HX.out; exact ⟨q0, R0.below b5⟩
              have z_v0_48 : wr.heap.size ≤ v0_48.heap.size := Nat.le_trans (by assumption) b5.size
              try rw [← hlp]
              clear hv_ hlp b5
              refine hK.out _ _ (⟨by obtain ⟨q0, R0⟩ := HX.out; exact R0.1.1, trivial⟩) (fun hHeld => ?_)
              clear hK KK
              refine wpAnyH_ready (rs := [4, 6]) (by kernel_rfl) (by simp) ?_
              refine (AllReadyH.cons rfl (fun KK hK => ?_) (AllReadyH.cons rfl (fun KK hK => ?_) AllReadyH.nil))
              · obtain ⟨jn', v, ej, -, cv_, -⟩ := picked (w' := v0_48) (L := [255, 1, 3, 0]) HB.out (by omega : (0 : Int) ≤ (jn : Int)) (by simp; omega)
                obtain rfl : jn = jn' := by omega
                have hl_ := HB.out.1
                go_simp
                clear cv_ ej hl_
                refine hK.out _ _ (⟨by obtain ⟨q0, R0⟩ := HX.out; exact R0.1.1, trivial⟩) (fun hHeld => ?_)
                clear hK KK
                refine wpAnyH_ready (rs := [6]) (by kernel_rfl) (by simp) ?_
                refine (AllReadyH.cons rfl (fun KK hK => ?_) AllReadyH.nil)
                obtain ⟨q0, R0⟩ := HX.out
                have HR0 : Hid (Rd v0_48 r s n c q0) := R0.1
                have zr5 : r < wr.heap.size := by have := ZB.out; omega
                go_simp
                go_wp2_with (first | (go_at_call 44; refine (upto_any 6 (by decide) HR0).mono ?_; rintro e v0_50 ⟨a, p5, rfl, a0, a6, R5, b5⟩))
                replace HB : Hid (Blk v0_50 lb [.int .i64 255, .int .i64 1, .int .i64 3, .int .i64 0]) := HB.out.beside b5 (by omega)
                replace HP : Hid (Blk v0_50 lp [.int .i64 0, .int .i64 0]) := HP.out.beside b5 (by omega)
                replace HX : Hid (∃ q, LmS w v0_50 r B s n c lv nl cv nl q) := ⟨_, R0.call R5 b5⟩
                have z_v0_50 : wr.heap.size ≤ v0_50.heap.size := Nat.le_trans (by assumption) b5.2.2.2.1
                have wa6 : IntKind.i64.wrap (1 + a) = 1 + a := by rw [IntKind.wrap_i64]; omega
                clear R5 b5 R0 HR0
                refine hK.out _ _ (⟨by obtain ⟨q0, R0⟩ := HX.out; exact R0.1.1, trivial⟩) (fun hHeld => ?_)
                clear hK KK
                refine wpAnyH_take (i := 7) (v := .int .i64 (1 + a)) rfl (by kernel_rfl) (by kernel_rfl) (by kernel_rfl) (fun _ _ _ h => h) (Or.inl ⟨by kernel_rfl, ?_⟩) hHeld ?_
                · intro w' hSw
                  obtain ⟨hz0, htr⟩ := hSw
                  first | (go_simp; done) | (go_simp; with_reducible rfl) | (go_simp; rw [IntKind.wrap_i64]; omega) | (go_simp; omega)
                simp only [Act.put, List.setIfInBounds_toArray, List.set_cons_zero, List.set_cons_succ]
                refine wpAnyH_take (i := 8) (v := .agg #[.int .i64 v, .int .i64 (1 + a)]) rfl (by kernel_rfl) (by kernel_rfl) (by kernel_rfl) (fun _ _ _ h => h) (Or.inl ⟨by kernel_rfl, ?_⟩) hHeld ?_
                · intro w' hSw
                  obtain ⟨hz0, htr⟩ := hSw
                  first | (go_simp; done) | (go_simp; with_reducible rfl) | (go_simp; rw [IntKind.wrap_i64]; omega) | (go_simp; omega)
                simp only [Act.put, List.setIfInBounds_toArray, List.set_cons_zero, List.set_cons_succ]
                refine wpAnyH_ready (rs := [10]) (by kernel_rfl) (by simp) ?_
                refine (AllReadyH.cons rfl (fun KK hK => ?_) AllReadyH.nil)
                have t0 := HP.out.2.1 0
                have t1 := HP.out.2.1 1
                have tz := HP.out.1
                have d0 := HP.out.2.2 0 _ rfl
                have d1 := HP.out.2.2 1 _ rfl
                go_simp
                obtain ⟨v0_51, hv_⟩ : ∃ z, z = (v0_50.setCell ⟨lp, 0, none⟩ (.int .i64 v)).setCell ⟨lp, 1, none⟩ (.int .i64 (1 + a)) := ⟨_, rfl⟩
                rw [← hv_]
                have b5 : Beside lp v0_50 v0_51 := by rw [hv_]; exact (Beside.setCell lp v0_50 0 _).trans (Beside.setCell lp _ 1 _)
                replace HP : Hid (Blk v0_51 lp [.int .i64 v, .int .i64 (1 + a)]) := by show Blk _ _ _; rw [hv_]; exact (HP.out.set 0 _).set 1 _
                replace HX : Hid (∃ q, LmS w v0_51 r B s n c lv nl cv nl q) := by obtain ⟨q0, R0⟩ := HX.out; exact ⟨q0, R0.other b5 (by have := ZB.out; omega) (fun g hg => by have := ZL.out g hg; omega) (fun g hg => by have := ZC.out g hg; omega)⟩
                clear hv_ b5 t0 t1 tz d0 d1
                refine hK.out _ _ (⟨by obtain ⟨q0, R0⟩ := HX.out; exact R0.1.1, trivial⟩) (fun hHeld => ?_)
                clear hK KK
                refine wpAnyH_done (by kernel_rfl) ?_ _
                clear hHeld
                go_wp2_with fail
                go_meet
                exact ⟨lp, v, 1 + a, rfl, zlp, HX, HP⟩
              · obtain ⟨q0, R0⟩ := HX.out
                have HR0 : Hid (Rd v0_48 r s n c q0) := R0.1
                have zr5 : r < wr.heap.size := by have := ZB.out; omega
                go_simp
                go_wp2_with (first | (go_at_call 44; refine (upto_any 6 (by decide) HR0).mono ?_; rintro e v0_52 ⟨a, p5, rfl, a0, a6, R5, b5⟩))
                replace HB : Hid (Blk v0_52 lb [.int .i64 255, .int .i64 1, .int .i64 3, .int .i64 0]) := HB.out.beside b5 (by omega)
                replace HP : Hid (Blk v0_52 lp [.int .i64 0, .int .i64 0]) := HP.out.beside b5 (by omega)
                replace HX : Hid (∃ q, LmS w v0_52 r B s n c lv nl cv nl q) := ⟨_, R0.call R5 b5⟩
                have z_v0_52 : wr.heap.size ≤ v0_52.heap.size := Nat.le_trans (by assumption) b5.2.2.2.1
                have wa6 : IntKind.i64.wrap (1 + a) = 1 + a := by rw [IntKind.wrap_i64]; omega
                clear R5 b5 R0 HR0
                refine hK.out _ _ (⟨by obtain ⟨q0, R0⟩ := HX.out; exact R0.1.1, trivial⟩) (fun hHeld => ?_)
                clear hK KK
                refine wpAnyH_take (i := 7) (v := .int .i64 (1 + a)) rfl (by kernel_rfl) (by kernel_rfl) (by kernel_rfl) (fun _ _ _ h => h) (Or.inl ⟨by kernel_rfl, ?_⟩) hHeld ?_
                · intro w' hSw
                  obtain ⟨hz0, htr⟩ := hSw
                  first | (go_simp; done) | (go_simp; with_reducible rfl) | (go_simp; rw [IntKind.wrap_i64]; omega) | (go_simp; omega)
                simp only [Act.put, List.setIfInBounds_toArray, List.set_cons_zero, List.set_cons_succ]
                refine wpAnyH_ready (rs := [4]) (by kernel_rfl) (by simp) ?_
                refine (AllReadyH.cons rfl (fun KK hK => ?_) AllReadyH.nil)
                obtain ⟨jn', v, ej, -, cv_, -⟩ := picked (w' := v0_52) (L := [255, 1, 3, 0]) HB.out (by omega : (0 : Int) ≤ (jn : Int)) (by simp; omega)
                obtain rfl : jn = jn' := by omega
                have hl_ := HB.out.1
                go_simp
                clear cv_ ej hl_
                refine hK.out _ _ (⟨by obtain ⟨q0, R0⟩ := HX.out; exact R0.1.1, trivial⟩) (fun hHeld => ?_)
                clear hK KK
                refine wpAnyH_take (i := 8) (v := .agg #[.int .i64 v, .int .i64 (1 + a)]) rfl (by kernel_rfl) (by kernel_rfl) (by kernel_rfl) (fun _ _ _ h => h) (Or.inl ⟨by kernel_rfl, ?_⟩) hHeld ?_
                · intro w' hSw
                  obtain ⟨hz0, htr⟩ := hSw
                  first | (go_simp; done) | (go_simp; with_reducible rfl) | (go_simp; rw [IntKind.wrap_i64]; omega) | (go_simp; omega)
                simp only [Act.put, List.setIfInBounds_toArray, List.set_cons_zero, List.set_cons_succ]
                refine wpAnyH_ready (rs := [10]) (by kernel_rfl) (by simp) ?_
                refine (AllReadyH.cons rfl (fun KK hK => ?_) AllReadyH.nil)
                have t0 := HP.out.2.1 0
                have t1 := HP.out.2.1 1
                have tz := HP.out.1
                have d0 := HP.out.2.2 0 _ rfl
                have d1 := HP.out.2.2 1 _ rfl
                go_simp
                obtain ⟨v0_54, hv_⟩ : ∃ z, z = (v0_52.setCell ⟨lp, 0, none⟩ (.int .i64 v)).setCell ⟨lp, 1, none⟩ (.int .i64 (1 + a)) := ⟨_, rfl⟩
                rw [← hv_]
                have b5 : Beside lp v0_52 v0_54 := by rw [hv_]; exact (Beside.setCell lp v0_52 0 _).trans (Beside.setCell lp _ 1 _)
                replace HP : Hid (Blk v0_54 lp [.int .i64 v, .int .i64 (1 + a)]) := by show Blk _ _ _; rw [hv_]; exact (HP.out.set 0 _).set 1 _
                replace HX : Hid (∃ q, LmS w v0_54 r B s n c lv nl cv nl q) := by obtain ⟨q0, R0⟩ := HX.out; exact ⟨q0, R0.other b5 (by have := ZB.out; omega) (fun g hg => by have := ZL.out g hg; omega) (fun g hg => by have := ZC.out g hg; omega)⟩
                clear hv_ b5 t0 t1 tz d0 d1
                refine hK.out _ _ (⟨by obtain ⟨q0, R0⟩ := HX.out; exact R0.1.1, trivial⟩) (fun hHeld => ?_)
                clear hK KK
                refine wpAnyH_done (by kernel_rfl) ?_ _
                clear hHeld
                go_wp2_with fail
                go_meet
                exact ⟨lp, v, 1 + a, rfl, zlp, HX, HP⟩
          · obtain ⟨q0, R0⟩ := HX.out
            have HR0 : Hid (Rd v0_32 r s n c q0) := R0.1
            have zr5 : r < wr.heap.size := by have := ZB.out; omega
            go_simp
            go_wp2_with (first | (go_at_call 44; refine (upto_any 6 (by decide) HR0).mono ?_; rintro e v0_55 ⟨a, p5, rfl, a0, a6, R5, b5⟩))
            replace HX : Hid (∃ q, LmS w v0_55 r B s n c lv nl cv nl q) := ⟨_, R0.call R5 b5⟩
            have z_v0_55 : wr.heap.size ≤ v0_55.heap.size := Nat.le_trans (by assumption) b5.2.2.2.1
            have wa6 : IntKind.i64.wrap (1 + a) = 1 + a := by rw [IntKind.wrap_i64]; omega
            clear R5 b5 R0 HR0
            refine hK.out _ _ (⟨by obtain ⟨q0, R0⟩ := HX.out; exact R0.1.1, trivial⟩) (fun hHeld => ?_)
            clear hK KK
            refine wpAnyH_take (i := 7) (v := .int .i64 (1 + a)) rfl (by kernel_rfl) (by kernel_rfl) (by kernel_rfl) (fun _ _ _ h => h) (Or.inl ⟨by kernel_rfl, ?_⟩) hHeld ?_
            · intro w' hSw
              obtain ⟨hz0, htr⟩ := hSw
              first | (go_simp; done) | (go_simp; with_reducible rfl) | (go_simp; rw [IntKind.wrap_i64]; omega) | (go_simp; omega)
            simp only [Act.put, List.setIfInBounds_toArray, List.set_cons_zero, List.set_cons_succ]
            refine wpAnyH_ready (rs := [0, 9]) (by kernel_rfl) (by simp) ?_
            refine (AllReadyH.cons rfl (fun KK hK => ?_) (AllReadyH.cons rfl (fun KK hK => ?_) AllReadyH.nil))
            · go_simp
              obtain ⟨v0_56, hv_⟩ : ∃ z, z = v0_55.alloc (.cells #[.int .i64 255, .int .i64 1, .int .i64 3, .int .i64 0] 3) := ⟨_, rfl⟩
              rw [← hv_]
              obtain ⟨lb, hlb⟩ : ∃ z, z = v0_55.heap.size := ⟨_, rfl⟩
              have b5 : Below v0_55.heap.size v0_55 v0_56 := by rw [hv_]; exact below0 _ _
              have HB : Hid (Blk v0_56 lb [.int .i64 255, .int .i64 1, .int .i64 3, .int .i64 0]) := by rw [hv_, hlb]; exact Blk.new v0_55 #[.int .i64 255, .int .i64 1, .int .i64 3, .int .i64 0] _
              have zlb : wr.heap.size ≤ lb := by omega
              replace HX : Hid (∃ q, LmS w v0_56 r B s n c lv nl cv nl q) := by obtain ⟨q0, R0⟩ := HX.out; exact ⟨q0, R0.below b5⟩
              have z_v0_56 : wr.heap.size ≤ v0_56.heap.size := Nat.le_trans (by assumption) b5.size
              try rw [← hlb]
              clear hv_ hlb b5
              refine hK.out _ _ (⟨by obtain ⟨q0, R0⟩ := HX.out; exact R0.1.1, trivial⟩) (fun hHeld => ?_)
              clear hK KK
              refine wpAnyH_take (i := 3) (v := .pointer (some ⟨lb, jn, none⟩)) rfl (by kernel_rfl) (by kernel_rfl) (by kernel_rfl) (fun _ _ _ h => h) (Or.inl ⟨by kernel_rfl, ?_⟩) hHeld ?_
              · intro w' hSw
                obtain ⟨hz0, htr⟩ := hSw
                first | (go_simp; done) | (go_simp; with_reducible rfl) | (go_simp; rw [IntKind.wrap_i64]; omega) | (go_simp; omega)
              simp only [Act.put, List.setIfInBounds_toArray, List.set_cons_zero, List.set_cons_succ]
              refine wpAnyH_ready (rs := [4, 9]) (by kernel_rfl) (by simp) ?_
              refine (AllReadyH.cons rfl (fun KK hK => ?_) (AllReadyH.cons rfl (fun KK hK => ?_) AllReadyH.nil))
              · obtain ⟨jn', v, ej, -, cv_, -⟩ := picked (w' := v0_56) (L := [255, 1, 3, 0]) HB.out (by omega : (0 : Int) ≤ (jn : Int)) (by simp; omega)
                obtain rfl : jn = jn' := by omega
                have hl_ := HB.out.1
                go_simp
                clear cv_ ej hl_
                refine hK.out _ _ (⟨by obtain ⟨q0, R0⟩ := HX.out; exact R0.1.1, trivial⟩) (fun hHeld => ?_)
                clear hK KK
                refine wpAnyH_take (i := 8) (v := .agg #[.int .i64 v, .int .i64 (1 + a)]) rfl (by kernel_rfl) (by kernel_rfl) (by kernel_rfl) (fun _ _ _ h => h) (Or.inl ⟨by kernel_rfl, ?_⟩) hHeld ?_
                · intro w' hSw
                  obtain ⟨hz0, htr⟩ := hSw
                  first | (go_simp; done) | (go_simp; with_reducible rfl) | (go_simp; rw [IntKind.wrap_i64]; omega) | (go_simp; omega)
                simp only [Act.put, List.setIfInBounds_toArray, List.set_cons_zero, List.set_cons_succ]
                refine wpAnyH_ready (rs := [9]) (by kernel_rfl) (by simp) ?_
                refine (AllReadyH.cons rfl (fun KK hK => ?_) AllReadyH.nil)
                go_simp
                obtain ⟨v0_58, hv_⟩ : ∃ z, z = v0_56.alloc (.cells #[.int .i64 0, .int .i64 0] 38) := ⟨_, rfl⟩
                rw [← hv_]
                obtain ⟨lp, hlp⟩ : ∃ z, z = v0_56.heap.size := ⟨_, rfl⟩
                have b5 : Below v0_56.heap.size v0_56 v0_58 := by rw [hv_]; exact below0 _ _
                have HP : Hid (Blk v0_58 lp [.int .i64 0, .int .i64 0]) := by rw [hv_, hlp]; exact Blk.new v0_56 #[.int .i64 0, .int .i64 0] _
                have zlp : wr.heap.size ≤ lp := by omega
                replace HB : Hid (Blk v0_58 lb [.int .i64 255, .int .i64 1, .int .i64 3, .int .i64 0]) := HB.out.below b5
                replace HX : Hid (∃ q, LmS w v0_58 r B s n c lv nl cv nl q) := by obtain ⟨q0, R0⟩ := HX.out; exact ⟨q0, R0.below b5⟩
                have z_v0_58 : wr.heap.size ≤ v0_58.heap.size := Nat.le_trans (by assumption) b5.size
                try rw [← hlp]
                clear hv_ hlp b5
                refine hK.out _ _ (⟨by obtain ⟨q0, R0⟩ := HX.out; exact R0.1.1, trivial⟩) (fun hHeld => ?_)
                clear hK KK
                refine wpAnyH_ready (rs := [10]) (by kernel_rfl) (by simp) ?_
                refine (AllReadyH.cons rfl (fun KK hK => ?_) AllReadyH.nil)
                have t0 := HP.out.2.1 0
                have t1 := HP.out.2.1 1
                have tz := HP.out.1
                have d0 := HP.out.2.2 0 _ rfl
                have d1 := HP.out.2.2 1 _ rfl
                go_simp
                obtain ⟨v0_59, hv_⟩ : ∃ z, z = (v0_58.setCell ⟨lp, 0, none⟩ (.int .i64 v)).setCell ⟨lp, 1, none⟩ (.int .i64 (1 + a)) := ⟨_, rfl⟩
                rw [← hv_]
                have b5 : Beside lp v0_58 v0_59 := by rw [hv_]; exact (Beside.setCell lp v0_58 0 _).trans (Beside.setCell lp _ 1 _)
                replace HP : Hid (Blk v0_59 lp [.int .i64 v, .int .i64 (1 + a)]) := by show Blk _ _ _; rw [hv_]; exact (HP.out.set 0 _).set 1 _
                replace HX : Hid (∃ q, LmS w v0_59 r B s n c lv nl cv nl q) := by obtain ⟨q0, R0⟩ := HX.out; exact ⟨q0, R0.other b5 (by have := ZB.out; omega) (fun g hg => by have := ZL.out g hg; omega) (fun g hg => by have := ZC.out g hg; omega)⟩
                clear hv_ b5 t0 t1 tz d0 d1
                refine hK.out _ _ (⟨by obtain ⟨q0, R0⟩ := HX.out; exact R0.1.1, trivial⟩) (fun hHeld => ?_)
                clear hK KK
                refine wpAnyH_done (by kernel_rfl) ?_ _
                clear hHeld
                go_wp2_with fail
                go_meet
                exact ⟨lp, v, 1 + a, rfl, zlp, HX, HP⟩
              · go_simp
                obtain ⟨v0_60, hv_⟩ : ∃ z, z = v0_56.alloc (.cells #[.int .i64 0, .int .i64 0] 38) := ⟨_, rfl⟩
                rw [← hv_]
                obtain ⟨lp, hlp⟩ : ∃ z, z = v0_56.heap.size := ⟨_, rfl⟩
                have b5 : Below v0_56.heap.size v0_56 v0_60 := by rw [hv_]; exact below0 _ _
                have HP : Hid (Blk v0_60 lp [.int .i64 0, .int .i64 0]) := by rw [hv_, hlp]; exact Blk.new v0_56 #[.int .i64 0, .int .i64 0] _
                have zlp : wr.heap.size ≤ lp := by omega
                replace HB : Hid (Blk v0_60 lb [.int .i64 255, .int .i64 1, .int .i64 3, .int .i64 0]) := HB.out.below b5
                replace HX : Hid (∃ q, LmS w v0_60 r B s n c lv nl cv nl q) := by obtain ⟨q0, R0⟩ := HX.out; exact ⟨q0, R0.below b5⟩
                have z_v0_60 : wr.heap.size ≤ v0_60.heap.size := Nat.le_trans (by assumption) b5.size
                try rw [← hlp]
                clear hv_ hlp b5
                refine hK.out _ _ (⟨by obtain ⟨q0, R0⟩ := HX.out; exact R0.1.1, trivial⟩) (fun hHeld => ?_)
                clear hK KK
                refine wpAnyH_ready (rs := [4]) (by kernel_rfl) (by simp) ?_
                refine (AllReadyH.cons rfl (fun KK hK => ?_) AllReadyH.nil)
                obtain ⟨jn', v, ej, -, cv_, -⟩ := picked (w' := v0_60) (L := [255, 1, 3, 0]) HB.out (by omega : (0 : Int) ≤ (jn : Int)) (by simp; omega)
                obtain rfl : jn = jn' := by omega
                have hl_ := HB.out.1
                go_simp
                clear cv_ ej hl_
                refine hK.out _ _ (⟨by obtain ⟨q0, R0⟩ := HX.out; exact R0.1.1, trivial⟩) (fun hHeld => ?_)
                clear hK KK
                refine wpAnyH_take (i := 8) (v := .agg #[.int .i64 v, .int .i64 (1 + a)]) rfl (by kernel_rfl) (by kernel_rfl) (by kernel_rfl) (fun _ _ _ h => h) (Or.inl ⟨by kernel_rfl, ?_⟩) hHeld ?_
                · intro w' hSw
                  obtain ⟨hz0, htr⟩ := hSw
                  first | (go_simp; done) | (go_simp; with_reducible rfl) | (go_simp; rw [IntKind.wrap_i64]; omega) | (go_simp; omega)
                simp only [Act.put, List.setIfInBounds_toArray, List.set_cons_zero, List.set_cons_succ]
                refine wpAnyH_ready (rs := [10]) (by kernel_rfl) (by simp) ?_
                refine (AllReadyH.cons rfl (fun KK hK => ?_) AllReadyH.nil)
                have t0 := HP.out.2.1 0
                have t1 := HP.out.2.1 1
                have tz := HP.out.1
                have d0 := HP.out.2.2 0 _ rfl
                have d1 := HP.out.2.2 1 _ rfl
                go_simp
                obtain ⟨v0_62, hv_⟩ : ∃ z, z = (v0_60.setCell ⟨lp, 0, none⟩ (.int .i64 v)).setCell ⟨lp, 1, none⟩ (.int .i64 (1 + a)) := ⟨_, rfl⟩
                rw [← hv_]
                have b5 : Beside lp v0_60 v0_62 := by rw [hv_]; exact (Beside.setCell lp v0_60 0 _).trans (Beside.setCell lp _ 1 _)
                replace HP : Hid (Blk v0_62 lp [.int .i64 v, .int .i64 (1 + a)]) := by show Blk _ _ _; rw [hv_]; exact (HP.out.set 0 _).set 1 _
                replace HX : Hid (∃ q, LmS w v0_62 r B s n c lv nl cv nl q) := by obtain ⟨q0, R0⟩ := HX.out; exact ⟨q0, R0.other b5 (by have := ZB.out; omega) (fun g hg => by have := ZL.out g hg; omega) (fun g hg => by have := ZC.out g hg; omega)⟩
                clear hv_ b5 t0 t1 tz d0 d1
                refine hK.out _ _ (⟨by obtain ⟨q0, R0⟩ := HX.out; exact R0.1.1, trivial⟩) (fun hHeld => ?_)
                clear hK KK
                refine wpAnyH_done (by kernel_rfl) ?_ _
                clear hHeld
                go_wp2_with fail
                go_meet
                exact ⟨lp, v, 1 + a, rfl, zlp, HX, HP⟩
            · go_simp
              obtain ⟨v0_63, hv_⟩ : ∃ z, z = v0_55.alloc (.cells #[.int .i64 0, .int .i64 0] 38) := ⟨_, rfl⟩
              rw [← hv_]
              obtain ⟨lp, hlp⟩ : ∃ z, z = v0_55.heap.size := ⟨_, rfl⟩
              have b5 : Below v0_55.heap.size v0_55 v0_63 := by rw [hv_]; exact below0 _ _
              have HP : Hid (Blk v0_63 lp [.int .i64 0, .int .i64 0]) := by rw [hv_, hlp]; exact Blk.new v0_55 #[.int .i64 0, .int .i64 0] _
              have zlp : wr.heap.size ≤ lp := by omega
              replace HX : Hid (∃ q, LmS w v0_63 r B s n c lv nl cv nl q) := by obtain ⟨q0, R0⟩ := HX.out; exact ⟨q0, R0.below b5⟩
              have z_v0_63 : wr.heap.size ≤ v0_63.heap.size := Nat.le_trans (by assumption) b5.size
              try rw [← hlp]
              clear hv_ hlp b5
              refine hK.out _ _ (⟨by obtain ⟨q0, R0⟩ := HX.out; exact R0.1.1, trivial⟩) (fun hHeld => ?_)
              clear hK KK
              refine wpAnyH_ready (rs := [0]) (by kernel_rfl) (by simp) ?_
              refine (AllReadyH.cons rfl (fun KK hK => ?_) AllReadyH.nil)
              go_simp
              obtain ⟨v0_64, hv_⟩ : ∃ z, z = v0_63.alloc (.cells #[.int .i64 255, .int .i64 1, .int .i64 3, .int .i64 0] 3) := ⟨_, rfl⟩
              rw [← hv_]
              obtain ⟨lb, hlb⟩ : ∃ z, z = v0_63.heap.size := ⟨_, rfl⟩
              have b5 : Below v0_63.heap.size v0_63 v0_64 := by rw [hv_]; exact below0 _ _
              have HB : Hid (Blk v0_64 lb [.int .i64 255, .int .i64 1, .int .i64 3, .int .i64 0]) := by rw [hv_, hlb]; exact Blk.new v0_63 #[.int .i64 255, .int .i64 1, .int .i64 3, .int .i64 0] _
              have zlb : wr.heap.size ≤ lb := by omega
              replace HP : Hid (Blk v0_64 lp [.int .i64 0, .int .i64 0]) := HP.out.below b5
              replace HX : Hid (∃ q, LmS w v0_64 r B s n c lv nl cv nl q) := by obtain ⟨q0, R0⟩ := HX.out; exact ⟨q0, R0.below b5⟩
              have z_v0_64 : wr.heap.size ≤ v0_64.heap.size := Nat.le_trans (by assumption) b5.size
              try rw [← hlb]
              clear hv_ hlb b5
              refine hK.out _ _ (⟨by obtain ⟨q0, R0⟩ := HX.out; exact R0.1.1, trivial⟩) (fun hHeld => ?_)
              clear hK KK
              refine wpAnyH_take (i := 3) (v := .pointer (some ⟨lb, jn, none⟩)) rfl (by kernel_rfl) (by kernel_rfl) (by kernel_rfl) (fun _ _ _ h => h) (Or.inl ⟨by kernel_rfl, ?_⟩) hHeld ?_
              · intro w' hSw
                obtain ⟨hz0, htr⟩ := hSw
                first | (go_simp; done) | (go_simp; with_reducible rfl) | (go_simp; rw [IntKind.wrap_i64]; omega) | (go_simp; omega)
              simp only [Act.put, List.setIfInBounds_toArray, List.set_cons_zero, List.set_cons_succ]
              refine wpAnyH_ready (rs := [4]) (by kernel_rfl) (by simp) ?_
              refine (AllReadyH.cons rfl (fun KK hK => ?_) AllReadyH.nil)
              obtain ⟨jn', v, ej, -, cv_, -⟩ := picked (w' := v0_64) (L := [255, 1, 3, 0]) HB.out (by omega : (0 : Int) ≤ (jn : Int)) (by simp; omega)
              obtain rfl : jn = jn' := by omega
              have hl_ := HB.out.1
              go_simp
              clear cv_ ej hl_
              refine hK.out _ _ (⟨by obtain ⟨q0, R0⟩ := HX.out; exact R0.1.1, trivial⟩) (fun hHeld => ?_)
              clear hK KK
              refine wpAnyH_take (i := 8) (v := .agg #[.int .i64 v, .int .i64 (1 + a)]) rfl (by kernel_rfl) (by kernel_rfl) (by kernel_rfl) (fun _ _ _ h => h) (Or.inl ⟨by kernel_rfl, ?_⟩) hHeld ?_
              · intro w' hSw
                obtain ⟨hz0, htr⟩ := hSw
                first | (go_simp; done) | (go_simp; with_reducible rfl) | (go_simp; rw [IntKind.wrap_i64]; omega) | (go_simp; omega)
              simp only [Act.put, List.setIfInBounds_toArray, List.set_cons_zero, List.set_cons_succ]
              refine wpAnyH_ready (rs := [10]) (by kernel_rfl) (by simp) ?_
              refine (AllReadyH.cons rfl (fun KK hK => ?_) AllReadyH.nil)
              have t0 := HP.out.2.1 0
              have t1 := HP.out.2.1 1
              have tz := HP.out.1
              have d0 := HP.out.2.2 0 _ rfl
              have d1 := HP.out.2.2 1 _ rfl
              go_simp
              obtain ⟨v0_66, hv_⟩ : ∃ z, z = (v0_64.setCell ⟨lp, 0, none⟩ (.int .i64 v)).setCell ⟨lp, 1, none⟩ (.int .i64 (1 + a)) := ⟨_, rfl⟩
              rw [← hv_]
              have b5 : Beside lp v0_64 v0_66 := by rw [hv_]; exact (Beside.setCell lp v0_64 0 _).trans (Beside.setCell lp _ 1 _)
              replace HP : Hid (Blk v0_66 lp [.int .i64 v, .int .i64 (1 + a)]) := by show Blk _ _ _; rw [hv_]; exact (HP.out.set 0 _).set 1 _
              replace HX : Hid (∃ q, LmS w v0_66 r B s n c lv nl cv nl q) := by obtain ⟨q0, R0⟩ := HX.out; exact ⟨q0, R0.other b5 (by have := ZB.out; omega) (fun g hg => by have := ZL.out g hg; omega) (fun g hg => by have := ZC.out g hg; omega)⟩
              clear hv_ b5 t0 t1 tz d0 d1
              refine hK.out _ _ (⟨by obtain ⟨q0, R0⟩ := HX.out; exact R0.1.1, trivial⟩) (fun hHeld => ?_)
              clear hK KK
              refine wpAnyH_done (by kernel_rfl) ?_ _
              clear hHeld
              go_wp2_with fail
              go_meet
              exact ⟨lp, v, 1 + a, rfl, zlp, HX, HP⟩
          · go_simp
            obtain ⟨v0_67, hv_⟩ : ∃ z, z = v0_32.alloc (.cells #[.int .i64 0, .int .i64 0] 38) := ⟨_, rfl⟩
            rw [← hv_]
            obtain ⟨lp, hlp⟩ : ∃ z, z = v0_32.heap.size := ⟨_, rfl⟩
            have b5 : Below v0_32.heap.size v0_32 v0_67 := by rw [hv_]; exact below0 _ _
            have HP : Hid (Blk v0_67 lp [.int .i64 0, .int .i64 0]) := by rw [hv_, hlp]; exact Blk.new v0_32 #[.int .i64 0, .int .i64 0] _
            have zlp : wr.heap.size ≤ lp := by omega
            replace HX : Hid (∃ q, LmS w v0_67 r B s n c lv nl cv nl q) := by obtain ⟨q0, R0⟩ := HX.out; exact ⟨q0, R0.below b5⟩
            have z_v0_67 : wr.heap.size ≤ v0_67.heap.size := Nat.le_trans (by assumption) b5.size
            try rw [← hlp]
            clear hv_ hlp b5
            refine hK.out _ _ (⟨by obtain ⟨q0, R0⟩ := HX.out; exact R0.1.1, trivial⟩) (fun hHeld => ?_)
            clear hK KK
            refine wpAnyH_ready (rs := [0, 6]) (by kernel_rfl) (by simp) ?_
            refine (AllReadyH.cons rfl (fun KK hK => ?_) (AllReadyH.cons rfl (fun KK hK => ?_) AllReadyH.nil))
            · go_simp
              obtain ⟨v0_68, hv_⟩ : ∃ z, z = v0_67.alloc (.cells #[.int .i64 255, .int .i64 1, .int .i64 3, .int .i64 0] 3) := ⟨_, rfl⟩
              rw [← hv_]
              obtain ⟨lb, hlb⟩ : ∃ z, z = v0_67.heap.size := ⟨_, rfl⟩
              have b5 : Below v0_67.heap.size v0_67 v0_68 := by rw [hv_]; exact below0 _ _
              have HB : Hid (Blk v0_68 lb [.int .i64 255, .int .i64 1, .int .i64 3, .int .i64 0]) := by rw [hv_, hlb]; exact Blk.new v0_67 #[.int .i64 255, .int .i64 1, .int .i64 3, .int .i64 0] _
              have zlb : wr.heap.size ≤ lb := by omega
              replace HP : Hid (Blk v0_68 lp [.int .i64 0, .int .i64 0]) := HP.out.below b5
              replace HX : Hid (∃ q, LmS w v0_68 r B s n c lv nl cv nl q) := by obtain ⟨q0, R0⟩ := HX.out; exact ⟨q0, R0.below b5⟩
              have z_v0_68 : wr.heap.size ≤ v0_68.heap.size := Nat.le_trans (by assumption) b5.size
              try rw [← hlb]
              clear hv_ hlb b5
              refine hK.out _ _ (⟨by obtain ⟨q0, R0⟩ := HX.out; exact R0.1.1, trivial⟩) (fun hHeld => ?_)
              clear hK KK
              refine wpAnyH_take (i := 3) (v := .pointer (some ⟨lb, jn, none⟩)) rfl (by kernel_rfl) (by kernel_rfl) (by kernel_rfl) (fun _ _ _ h => h) (Or.inl ⟨by kernel_rfl, ?_⟩) hHeld ?_
              · intro w' hSw
                obtain ⟨hz0, htr⟩ := hSw
                first | (go_simp; done) | (go_simp; with_reducible rfl) | (go_simp; rw [IntKind.wrap_i64]; omega) | (go_simp; omega)
              simp only [Act.put, List.setIfInBounds_toArray, List.set_cons_zero, List.set_cons_succ]
              refine wpAnyH_ready (rs := [4, 6]) (by kernel_rfl) (by simp) ?_
              refine (AllReadyH.cons rfl (fun KK hK => ?_) (AllReadyH.cons rfl (fun KK hK => ?_) AllReadyH.nil))
              · obtain ⟨jn', v, ej, -, cv_, -⟩ := picked (w' := v0_68) (L := [255, 1, 3, 0]) HB.out (by omega : (0 : Int) ≤ (jn : Int)) (by simp; omega)
                obtain rfl : jn = jn' := by omega
                have hl_ := HB.out.1
                go_simp
                clear cv_ ej hl_
                refine hK.out _ _ (⟨by obtain ⟨q0, R0⟩ := HX.out; exact R0.1.1, trivial⟩) (fun hHeld => ?_)
                clear hK KK
                refine wpAnyH_ready (rs := [6]) (by kernel_rfl) (by simp) ?_
                refine (AllReadyH.cons rfl (fun KK hK => ?_) AllReadyH.nil)
                obtain ⟨q0, R0⟩ := HX.out
                have HR0 : Hid (Rd v0_68 r s n c q0) := R0.1
                have zr5 : r < wr.heap.size := by have := ZB.out; omega
                go_simp
                go_wp2_with (first | (go_at_call 44; refine (upto_any 6 (by decide) HR0).mono ?_; rintro e v0_70 ⟨a, p5, rfl, a0, a6, R5, b5⟩))
                replace HB : Hid (Blk v0_70 lb [.int .i64 255, .int .i64 1, .int .i64 3, .int .i64 0]) := HB.out.beside b5 (by omega)
                replace HP : Hid (Blk v0_70 lp [.int .i64 0, .int .i64 0]) := HP.out.beside b5 (by omega)
                replace HX : Hid (∃ q, LmS w v0_70 r B s n c lv nl cv nl q) := ⟨_, R0.call R5 b5⟩
                have z_v0_70 : wr.heap.size ≤ v0_70.heap.size := Nat.le_trans (by assumption) b5.2.2.2.1
                have wa6 : IntKind.i64.wrap (1 + a) = 1 + a := by rw [IntKind.wrap_i64]; omega
                clear R5 b5 R0 HR0
                refine hK.out _ _ (⟨by obtain ⟨q0, R0⟩ := HX.out; exact R0.1.1, trivial⟩) (fun hHeld => ?_)
                clear hK KK
                refine wpAnyH_take (i := 7) (v := .int .i64 (1 + a)) rfl (by kernel_rfl) (by kernel_rfl) (by kernel_rfl) (fun _ _ _ h => h) (Or.inl ⟨by kernel_rfl, ?_⟩) hHeld ?_
                · intro w' hSw
                  obtain ⟨hz0, htr⟩ := hSw
                  first | (go_simp; done) | (go_simp; with_reducible rfl) | (go_simp; rw [IntKind.wrap_i64]; omega) | (go_simp; omega)
                simp only [Act.put, List.setIfInBounds_toArray, List.set_cons_zero, List.set_cons_succ]
                refine wpAnyH_take (i := 8) (v := .agg #[.int .i64 v, .int .i64 (1 + a)]) rfl (by kernel_rfl) (by kernel_rfl) (by kernel_rfl) (fun _ _ _ h => h) (Or.inl ⟨by kernel_rfl, ?_⟩) hHeld ?_
                · intro w' hSw
                  obtain ⟨hz0, htr⟩ := hSw
                  first | (go_simp; done) | (go_simp; with_reducible rfl) | (go_simp; rw [IntKind.wrap_i64]; omega) | (go_simp; omega)
                simp only [Act.put, List.setIfInBounds_toArray, List.set_cons_zero, List.set_cons_succ]
                refine wpAnyH_ready (rs := [10]) (by kernel_rfl) (by simp) ?_
                refine (AllReadyH.cons rfl (fun KK hK => ?_) AllReadyH.nil)
                have t0 := HP.out.2.1 0
                have t1 := HP.out.2.1 1
                have tz := HP.out.1
                have d0 := HP.out.2.2 0 _ rfl
                have d1 := HP.out.2.2 1 _ rfl
                go_simp
                obtain ⟨v0_71, hv_⟩ : ∃ z, z = (v0_70.setCell ⟨lp, 0, none⟩ (.int .i64 v)).setCell ⟨lp, 1, none⟩ (.int .i64 (1 + a)) := ⟨_, rfl⟩
                rw [← hv_]
                have b5 : Beside lp v0_70 v0_71 := by rw [hv_]; exact (Beside.setCell lp v0_70 0 _).trans (Beside.setCell lp _ 1 _)
                replace HP : Hid (Blk v0_71 lp [.int .i64 v, .int .i64 (1 + a)]) := by show Blk _ _ _; rw [hv_]; exact (HP.out.set 0 _).set 1 _
                replace HX : Hid (∃ q, LmS w v0_71 r B s n c lv nl cv nl q) := by obtain ⟨q0, R0⟩ := HX.out; exact ⟨q0, R0.other b5 (by have := ZB.out; omega) (fun g hg => by have := ZL.out g hg; omega) (fun g hg => by have := ZC.out g hg; omega)⟩
                clear hv_ b5 t0 t1 tz d0 d1
                refine hK.out _ _ (⟨by obtain ⟨q0, R0⟩ := HX.out; exact R0.1.1, trivial⟩) (fun hHeld => ?_)
                clear hK KK
                refine wpAnyH_done (by kernel_rfl) ?_ _
                clear hHeld
                go_wp2_with fail
                go_meet
                exact ⟨lp, v, 1 + a, rfl, zlp, HX, HP⟩
              · obtain ⟨q0, R0⟩ := HX.out
                have HR0 : Hid (Rd v0_68 r s n c q0) := R0.1
                have zr5 : r < wr.heap.size := by have := ZB.out; omega
                go_simp
                go_wp2_with (first | (go_at_call 44; refine (upto_any 6 (by decide) HR0).mono ?_; rintro e v0_72 ⟨a, p5, rfl, a0, a6, R5, b5⟩))
                replace HB : Hid (Blk v0_72 lb [.int .i64 255, .int .i64 1, .int .i64 3, .int .i64 0]) := HB.out.beside b5 (by omega)
                replace HP : Hid (Blk v0_72 lp [.int .i64 0, .int .i64 0]) := HP.out.beside b5 (by omega)
                replace HX : Hid (∃ q, LmS w v0_72 r B s n c lv nl cv nl q) := ⟨_, R0.call R5 b5⟩
                have z_v0_72 : wr.heap.size ≤ v0_72.heap.size := Nat.le_trans (by assumption) b5.2.2.2.1
                have wa6 : IntKind.i64.wrap (1 + a) = 1 + a := by rw [IntKind.wrap_i64]; omega
                clear R5 b5 R0 HR0
                refine hK.out _ _ (⟨by obtain ⟨q0, R0⟩ := HX.out; exact R0.1.1, trivial⟩) (fun hHeld => ?_)
                clear hK KK
                refine wpAnyH_take (i := 7) (v := .int .i64 (1 + a)) rfl (by kernel_rfl) (by kernel_rfl) (by kernel_rfl) (fun _ _ _ h => h) (Or.inl ⟨by kernel_rfl, ?_⟩) hHeld ?_
                · intro w' hSw
                  obtain ⟨hz0, htr⟩ := hSw
                  first | (go_simp; done) | (go_simp; with_reducible rfl) | (go_simp; rw [IntKind.wrap_i64]; omega) | (go_simp; omega)
                simp only [Act.put, List.setIfInBounds_toArray, List.set_cons_zero, List.set_cons_succ]
                refine wpAnyH_ready (rs := [4]) (by kernel_rfl) (by simp) ?_
                refine (AllReadyH.cons rfl (fun KK hK => ?_) AllReadyH.nil)
                obtain ⟨jn', v, ej, -, cv_, -⟩ := picked (w' := v0_72) (L := [255, 1, 3, 0]) HB.out (by omega : (0 : Int) ≤ (jn : Int)) (by simp; omega)
                obtain rfl : jn = jn' := by omega
                have hl_ := HB.out.1
                go_simp
                clear cv_ ej hl_
                refine hK.out _ _ (⟨by obtain ⟨q0, R0⟩ := HX.out; exact R0.1.1, trivial⟩) (fun hHeld => ?_)
                clear hK KK
                refine wpAnyH_take (i := 8) (v := .agg #[.int .i64 v, .int .i64 (1 + a)]) rfl (by kernel_rfl) (by kernel_rfl) (by kernel_rfl) (fun _ _ _ h => h) (Or.inl ⟨by kernel_rfl, ?_⟩) hHeld ?_
                · intro w' hSw
                  obtain ⟨hz0, htr⟩ := hSw
                  first | (go_simp; done) | (go_simp; with_reducible rfl) | (go_simp; rw [IntKind.wrap_i64]; omega) | (go_simp; omega)
                simp only [Act.put, List.setIfInBounds_toArray, List.set_cons_zero, List.set_cons_succ]
                refine wpAnyH_ready (rs := [10]) (by kernel_rfl) (by simp) ?_
                refine (AllReadyH.cons rfl (fun KK hK => ?_) AllReadyH.nil)
                have t0 := HP.out.2.1 0
                have t1 := HP.out.2.1 1
                have tz := HP.out.1
                have d0 := HP.out.2.2 0 _ rfl
                have d1 := HP.out.2.2 1 _ rfl
                go_simp
                obtain ⟨v0_74, hv_⟩ : ∃ z, z = (v0_72.setCell ⟨lp, 0, none⟩ (.int .i64 v)).setCell ⟨lp, 1, none⟩ (.int .i64 (1 + a)) := ⟨_, rfl⟩
                rw [← hv_]
                have b5 : Beside lp v0_72 v0_74 := by rw [hv_]; exact (Beside.setCell lp v0_72 0 _).trans (Beside.setCell lp _ 1 _)
                replace HP : Hid (Blk v0_74 lp [.int .i64 v, .int .i64 (1 + a)]) := by show Blk _ _ _; rw [hv_]; exact (HP.out.set 0 _).set 1 _
                replace HX : Hid (∃ q, LmS w v0_74 r B s n c lv nl cv nl q) := by obtain ⟨q0, R0⟩ := HX.out; exact ⟨q0, R0.other b5 (by have := ZB.out; omega) (fun g hg => by have := ZL.out g hg; omega) (fun g hg => by have := ZC.out g hg; omega)⟩
                clear hv_ b5 t0 t1 tz d0 d1
                refine hK.out _ _ (⟨by obtain ⟨q0, R0⟩ := HX.out; exact R0.1.1, trivial⟩) (fun hHeld => ?_)
                clear hK KK
                refine wpAnyH_done (by kernel_rfl) ?_ _
                clear hHeld
                go_wp2_with fail
                go_meet
                exact ⟨lp, v, 1 + a, rfl, zlp, HX, HP⟩
            · obtain ⟨q0, R0⟩ := HX.out
              have HR0 : Hid (Rd v0_67 r s n c q0) := R0.1
              have zr5 : r < wr.heap.size := by have := ZB.out; omega
              go_simp
              go_wp2_with (first | (go_at_call 44; refine (upto_any 6 (by decide) HR0).mono ?_; rintro e v0_75 ⟨a, p5, rfl, a0, a6, R5, b5⟩))
              replace HP : Hid (Blk v0_75 lp [.int .i64 0, .int .i64 0]) := HP.out.beside b5 (by omega)
              replace HX : Hid (∃ q, LmS w v0_75 r B s n c lv nl cv nl q) := ⟨_, R0.call R5 b5⟩
              have z_v0_75 : wr.heap.size ≤ v0_75.heap.size := Nat.le_trans (by assumption) b5.2.2.2.1
              have wa6 : IntKind.i64.wrap (1 + a) = 1 + a := by rw [IntKind.wrap_i64]; omega
              clear R5 b5 R0 HR0
              refine hK.out _ _ (⟨by obtain ⟨q0, R0⟩ := HX.out; exact R0.1.1, trivial⟩) (fun hHeld => ?_)
              clear hK KK
              refine wpAnyH_take (i := 7) (v := .int .i64 (1 + a)) rfl (by kernel_rfl) (by kernel_rfl) (by kernel_rfl) (fun _ _ _ h => h) (Or.inl ⟨by kernel_rfl, ?_⟩) hHeld ?_
              · intro w' hSw
                obtain ⟨hz0, htr⟩ := hSw
                first | (go_simp; done) | (go_simp; with_reducible rfl) | (go_simp; rw [IntKind.wrap_i64]; omega) | (go_simp; omega)
              simp only [Act.put, List.setIfInBounds_toArray, List.set_cons_zero, List.set_cons_succ]
              refine wpAnyH_ready (rs := [0]) (by kernel_rfl) (by simp) ?_
              refine (AllReadyH.cons rfl (fun KK hK => ?_) AllReadyH.nil)
              go_simp
              obtain ⟨v0_76, hv_⟩ : ∃ z, z = v0_75.alloc (.cells #[.int .i64 255, .int .i64 1, .int .i64 3, .int .i64 0] 3) := ⟨_, rfl⟩
              rw [← hv_]
              obtain ⟨lb, hlb⟩ : ∃ z, z = v0_75.heap.size := ⟨_, rfl⟩
              have b5 : Below v0_75.heap.size v0_75 v0_76 := by rw [hv_]; exact below0 _ _
              have HB : Hid (Blk v0_76 lb [.int .i64 255, .int .i64 1, .int .i64 3, .int .i64 0]) := by rw [hv_, hlb]; exact Blk.new v0_75 #[.int .i64 255, .int .i64 1, .int .i64 3, .int .i64 0] _
              have zlb : wr.heap.size ≤ lb := by omega
              replace HP : Hid (Blk v0_76 lp [.int .i64 0, .int .i64 0]) := HP.out.below b5
              replace HX : Hid (∃ q, LmS w v0_76 r B s n c lv nl cv nl q) := by obtain ⟨q0, R0⟩ := HX.out; exact ⟨q0, R0.below b5⟩
              have z_v0_76 : wr.heap.size ≤ v0_76.heap.size := Nat.le_trans (by assumption) b5.size
              try rw [← hlb]
              clear hv_ hlb b5
              refine hK.out _ _ (⟨by obtain ⟨q0, R0⟩ := HX.out; exact R0.1.1, trivial⟩) (fun hHeld => ?_)
              clear hK KK
              refine wpAnyH_take (i := 3) (v := .pointer (some ⟨lb, jn, none⟩)) rfl (by kernel_rfl) (by kernel_rfl) (by kernel_rfl) (fun _ _ _ h => h) (Or.inl ⟨by kernel_rfl, ?_⟩) hHeld ?_
              · intro w' hSw
                obtain ⟨hz0, htr⟩ := hSw
                first | (go_simp; done) | (go_simp; with_reducible rfl) | (go_simp; rw [IntKind.wrap_i64]; omega) | (go_simp; omega)
              simp only [Act.put, List.setIfInBounds_toArray, List.set_cons_zero, List.set_cons_succ]
              refine wpAnyH_ready (rs := [4]) (by kernel_rfl) (by simp) ?_
              refine (AllReadyH.cons rfl (fun KK hK => ?_) AllReadyH.nil)
              obtain ⟨jn', v, ej, -, cv_, -⟩ := picked (w' := v0_76) (L := [255, 1, 3, 0]) HB.out (by omega : (0 : Int) ≤ (jn : Int)) (by simp; omega)
              obtain rfl : jn = jn' := by omega
              have hl_ := HB.out.1
              go_simp
              clear cv_ ej hl_
              refine hK.out _ _ (⟨by obtain ⟨q0, R0⟩ := HX.out; exact R0.1.1, trivial⟩) (fun hHeld => ?_)
              clear hK KK
              refine wpAnyH_take (i := 8) (v := .agg #[.int .i64 v, .int .i64 (1 + a)]) rfl (by kernel_rfl) (by kernel_rfl) (by kernel_rfl) (fun _ _ _ h => h) (Or.inl ⟨by kernel_rfl, ?_⟩) hHeld ?_
              · intro w' hSw
                obtain ⟨hz0, htr⟩ := hSw
                first | (go_simp; done) | (go_simp; with_reducible rfl) | (go_simp; rw [IntKind.wrap_i64]; omega) | (go_simp; omega)
              simp only [Act.put, List.setIfInBounds_toArray, List.set_cons_zero, List.set_cons_succ]
              refine wpAnyH_ready (rs := [10]) (by kernel_rfl) (by simp) ?_
              refine (AllReadyH.cons rfl (fun KK hK => ?_) AllReadyH.nil)
              have t0 := HP.out.2.1 0
              have t1 := HP.out.2.1 1
              have tz := HP.out.1
              have d0 := HP.out.2.2 0 _ rfl
              have d1 := HP.out.2.2 1 _ rfl
              go_simp
              obtain ⟨v0_78, hv_⟩ : ∃ z, z = (v0_76.setCell ⟨lp, 0, none⟩ (.int .i64 v)).setCell ⟨lp, 1, none⟩ (.int .i64 (1 + a)) := ⟨_, rfl⟩
              rw [← hv_]
              have b5 : Beside lp v0_76 v0_78 := by rw [hv_]; exact (Beside.setCell lp v0_76 0 _).trans (Beside.setCell lp _ 1 _)
              replace HP : Hid (Blk v0_78 lp [.int .i64 v, .int .i64 (1 + a)]) := by show Blk _ _ _; rw [hv_]; exact (HP.out.set 0 _).set 1 _
              replace HX : Hid (∃ q, LmS w v0_78 r B s n c lv nl cv nl q) := by obtain ⟨q0, R0⟩ := HX.out; exact ⟨q0, R0.other b5 (by have := ZB.out; omega) (fun g hg => by have := ZL.out g hg; omega) (fun g hg => by have := ZC.out g hg; omega)⟩
              clear hv_ b5 t0 t1 tz d0 d1
              refine hK.out _ _ (⟨by obtain ⟨q0, R0⟩ := HX.out; exact R0.1.1, trivial⟩) (fun hHeld => ?_)
              clear hK KK
              refine wpAnyH_done (by kernel_rfl) ?_ _
              clear hHeld
              go_wp2_with fail
              go_meet
              exact ⟨lp, v, 1 + a, rfl, zlp, HX, HP⟩
        · go_simp
          obtain ⟨v0_79, hv_⟩ : ∃ z, z = v0.alloc (.cells #[.int .i64 0, .int .i64 0] 38) := ⟨_, rfl⟩
          rw [← hv_]
          obtain ⟨lp, hlp⟩ : ∃ z, z = v0.heap.size := ⟨_, rfl⟩
          have b5 : Below v0.heap.size v0 v0_79 := by rw [hv_]; exact below0 _ _
          have HP : Hid (Blk v0_79 lp [.int .i64 0, .int .i64 0]) := by rw [hv_, hlp]; exact Blk.new v0 #[.int .i64 0, .int .i64 0] _
          have zlp : wr.heap.size ≤ lp := by omega
          replace HX : Hid (∃ q, LmS w v0_79 r B s n c lv nl cv nl q) := by obtain ⟨q0, R0⟩ := HX.out; exact ⟨q0, R0.below b5⟩
          have z_v0_79 : wr.heap.size ≤ v0_79.heap.size := Nat.le_trans (by assumption) b5.size
          try rw [← hlp]
          clear hv_ hlp b5
          refine hK.out _ _ (⟨by obtain ⟨q0, R0⟩ := HX.out; exact R0.1.1, trivial⟩) (fun hHeld => ?_)
          clear hK KK
          refine wpAnyH_ready (rs := [0, 2]) (by kernel_rfl) (by simp) ?_
          refine (AllReadyH.cons rfl (fun KK hK => ?_) (AllReadyH.cons rfl (fun KK hK => ?_) AllReadyH.nil))
          · go_simp
            obtain ⟨v0_80, hv_⟩ : ∃ z, z = v0_79.alloc (.cells #[.int .i64 255, .int .i64 1, .int .i64 3, .int .i64 0] 3) := ⟨_, rfl⟩
            rw [← hv_]
            obtain ⟨lb, hlb⟩ : ∃ z, z = v0_79.heap.size := ⟨_, rfl⟩
            have b5 : Below v0_79.heap.size v0_79 v0_80 := by rw [hv_]; exact below0 _ _
            have HB : Hid (Blk v0_80 lb [.int .i64 255, .int .i64 1, .int .i64 3, .int .i64 0]) := by rw [hv_, hlb]; exact Blk.new v0_79 #[.int .i64 255, .int .i64 1, .int .i64 3, .int .i64 0] _
            have zlb : wr.heap.size ≤ lb := by omega
            replace HP : Hid (Blk v0_80 lp [.int .i64 0, .int .i64 0]) := HP.out.below b5
            replace HX : Hid (∃ q, LmS w v0_80 r B s n c lv nl cv nl q) := by obtain ⟨q0, R0⟩ := HX.out; exact ⟨q0, R0.below b5⟩
            have z_v0_80 : wr.heap.size ≤ v0_80.heap.size := Nat.le_trans (by assumption) b5.size
            try rw [← hlb]
            clear hv_ hlb b5
            refine hK.out _ _ (⟨by obtain ⟨q0, R0⟩ := HX.out; exact R0.1.1, trivial⟩) (fun hHeld => ?_)
            clear hK KK
            refine wpAnyH_ready (rs := [2]) (by kernel_rfl) (by simp) ?_
            refine (AllReadyH.cons rfl (fun KK hK => ?_) AllReadyH.nil)
            obtain ⟨q0, R0⟩ := HX.out
            have HR0 : Hid (Rd v0_80 r s n c q0) := R0.1
            have zr5 : r < wr.heap.size := by have := ZB.out; omega
            go_simp
            go_wp2_with (first | (go_at_call 43; refine (below_any 4 HR0).mono ?_; rintro e v0_81 ⟨j5, p5, rfl, j0, -, jm, R5, b5⟩))
            replace HB : Hid (Blk v0_81 lb [.int .i64 255, .int .i64 1, .int .i64 3, .int .i64 0]) := HB.out.beside b5 (by omega)
            replace HP : Hid (Blk v0_81 lp [.int .i64 0, .int .i64 0]) := HP.out.beside b5 (by omega)
            replace HX : Hid (∃ q, LmS w v0_81 r B s n c lv nl cv nl q) := ⟨_, R0.call R5 b5⟩
            have z_v0_81 : wr.heap.size ≤ v0_81.heap.size := Nat.le_trans (by assumption) b5.2.2.2.1
            obtain ⟨jn, rfl⟩ : ∃ jn : Nat, j5 = jn := ⟨j5.toNat, by omega⟩
            have j4 : (jn : Int) < 4 := by omega
            clear jm
            clear R5 b5 R0 HR0
            refine hK.out _ _ (⟨by obtain ⟨q0, R0⟩ := HX.out; exact R0.1.1, trivial⟩) (fun hHeld => ?_)
            clear hK KK
            refine wpAnyH_take (i := 3) (v := .pointer (some ⟨lb, jn, none⟩)) rfl (by kernel_rfl) (by kernel_rfl) (by kernel_rfl) (fun _ _ _ h => h) (Or.inl ⟨by kernel_rfl, ?_⟩) hHeld ?_
            · intro w' hSw
              obtain ⟨hz0, htr⟩ := hSw
              first | (go_simp; done) | (go_simp; with_reducible rfl) | (go_simp; rw [IntKind.wrap_i64]; omega) | (go_simp; omega)
            simp only [Act.put, List.setIfInBounds_toArray, List.set_cons_zero, List.set_cons_succ]
            refine wpAnyH_ready (rs := [4, 6]) (by kernel_rfl) (by simp) ?_
            refine (AllReadyH.cons rfl (fun KK hK => ?_) (AllReadyH.cons rfl (fun KK hK => ?_) AllReadyH.nil))
            · obtain ⟨jn', v, ej, -, cv_, -⟩ := picked (w' := v0_81) (L := [255, 1, 3, 0]) HB.out (by omega : (0 : Int) ≤ (jn : Int)) (by simp; omega)
              obtain rfl : jn = jn' := by omega
              have hl_ := HB.out.1
              go_simp
              clear cv_ ej hl_
              refine hK.out _ _ (⟨by obtain ⟨q0, R0⟩ := HX.out; exact R0.1.1, trivial⟩) (fun hHeld => ?_)
              clear hK KK
              refine wpAnyH_ready (rs := [6]) (by kernel_rfl) (by simp) ?_
              refine (AllReadyH.cons rfl (fun KK hK => ?_) AllReadyH.nil)
              obtain ⟨q0, R0⟩ := HX.out
              have HR0 : Hid (Rd v0_81 r s n c q0) := R0.1
              have zr5 : r < wr.heap.size := by have := ZB.out; omega
              go_simp
              go_wp2_with (first | (go_at_call 44; refine (upto_any 6 (by decide) HR0).mono ?_; rintro e v0_83 ⟨a, p5, rfl, a0, a6, R5, b5⟩))
              replace HB : Hid (Blk v0_83 lb [.int .i64 255, .int .i64 1, .int .i64 3, .int .i64 0]) := HB.out.beside b5 (by omega)
              replace HP : Hid (Blk v0_83 lp [.int .i64 0, .int .i64 0]) := HP.out.beside b5 (by omega)
              replace HX : Hid (∃ q, LmS w v0_83 r B s n c lv nl cv nl q) := ⟨_, R0.call R5 b5⟩
              have z_v0_83 : wr.heap.size ≤ v0_83.heap.size := Nat.le_trans (by assumption) b5.2.2.2.1
              have wa6 : IntKind.i64.wrap (1 + a) = 1 + a := by rw [IntKind.wrap_i64]; omega
              clear R5 b5 R0 HR0
              refine hK.out _ _ (⟨by obtain ⟨q0, R0⟩ := HX.out; exact R0.1.1, trivial⟩) (fun hHeld => ?_)
              clear hK KK
              refine wpAnyH_take (i := 7) (v := .int .i64 (1 + a)) rfl (by kernel_rfl) (by kernel_rfl) (by kernel_rfl) (fun _ _ _ h => h) (Or.inl ⟨by kernel_rfl, ?_⟩) hHeld ?_
              · intro w' hSw
                obtain ⟨hz0, htr⟩ := hSw
                first | (go_simp; done) | (go_simp; with_reducible rfl) | (go_simp; rw [IntKind.wrap_i64]; omega) | (go_simp; omega)
              simp only [Act.put, List.setIfInBounds_toArray, List.set_cons_zero, List.set_cons_succ]
              refine wpAnyH_take (i := 8) (v := .agg #[.int .i64 v, .int .i64 (1 + a)]) rfl (by kernel_rfl) (by kernel_rfl) (by kernel_rfl) (fun _ _ _ h => h) (Or.inl ⟨by kernel_rfl, ?_⟩) hHeld ?_
              · intro w' hSw
                obtain ⟨hz0, htr⟩ := hSw
                first | (go_simp; done) | (go_simp; with_reducible rfl) | (go_simp; rw [IntKind.wrap_i64]; omega) | (go_simp; omega)
              simp only [Act.put, List.setIfInBounds_toArray, List.set_cons_zero, List.set_cons_succ]
              refine wpAnyH_ready (rs := [10]) (by kernel_rfl) (by simp) ?_
              refine (AllReadyH.cons rfl (fun KK hK => ?_) AllReadyH.nil)
              have t0 := HP.out.2.1 0
              have t1 := HP.out.2.1 1
              have tz := HP.out.1
              have d0 := HP.out.2.2 0 _ rfl
              have d1 := HP.out.2.2 1 _ rfl
              go_simp
              obtain ⟨v0_84, hv_⟩ : ∃ z, z = (v0_83.setCell ⟨lp, 0, none⟩ (.int .i64 v)).setCell ⟨lp, 1, none⟩ (.int .i64 (1 + a)) := ⟨_, rfl⟩
              rw [← hv_]
              have b5 : Beside lp v0_83 v0_84 := by rw [hv_]; exact (Beside.setCell lp v0_83 0 _).trans (Beside.setCell lp _ 1 _)
              replace HP : Hid (Blk v0_84 lp [.int .i64 v, .int .i64 (1 + a)]) := by show Blk _ _ _; rw [hv_]; exact (HP.out.set 0 _).set 1 _
              replace HX : Hid (∃ q, LmS w v0_84 r B s n c lv nl cv nl q) := by obtain ⟨q0, R0⟩ := HX.out; exact ⟨q0, R0.other b5 (by have := ZB.out; omega) (fun g hg => by have := ZL.out g hg; omega) (fun g hg => by have := ZC.out g hg; omega)⟩
              clear hv_ b5 t0 t1 tz d0 d1
              refine hK.out _ _ (⟨by obtain ⟨q0, R0⟩ := HX.out; exact R0.1.1, trivial⟩) (fun hHeld => ?_)
              clear hK KK
              refine wpAnyH_done (by kernel_rfl) ?_ _
              clear hHeld
              go_wp2_with fail
              go_meet
              exact ⟨lp, v, 1 + a, rfl, zlp, HX, HP⟩
            · obtain ⟨q0, R0⟩ := HX.out
              have HR0 : Hid (Rd v0_81 r s n c q0) := R0.1
              have zr5 : r < wr.heap.size := by have := ZB.out; omega
              go_simp
              go_wp2_with (first | (go_at_call 44; refine (upto_any 6 (by decide) HR0).mono ?_; rintro e v0_85 ⟨a, p5, rfl, a0, a6, R5, b5⟩))
              replace HB : Hid (Blk v0_85 lb [.int .i64 255, .int .i64 1, .int .i64 3, .int .i64 0]) := HB.out.beside b5 (by omega)
              replace HP : Hid (Blk v0_85 lp [.int .i64 0, .int .i64 0]) := HP.out.beside b5 (by omega)
              replace HX : Hid (∃ q, LmS w v0_85 r B s n c lv nl cv nl q) := ⟨_, R0.call R5 b5⟩
              have z_v0_85 : wr.heap.size ≤ v0_85.heap.size := Nat.le_trans (by assumption) b5.2.2.2.1
              have wa6 : IntKind.i64.wrap (1 + a) = 1 + a := by rw [IntKind.wrap_i64]; omega
              clear R5 b5 R0 HR0
              refine hK.out _ _ (⟨by obtain ⟨q0, R0⟩ := HX.out; exact R0.1.1, trivial⟩) (fun hHeld => ?_)
              clear hK KK
              refine wpAnyH_take (i := 7) (v := .int .i64 (1 + a)) rfl (by kernel_rfl) (by kernel_rfl) (by kernel_rfl) (fun _ _ _ h => h) (Or.inl ⟨by kernel_rfl, ?_⟩) hHeld ?_
              · intro w' hSw
                obtain ⟨hz0, htr⟩ := hSw
                first | (go_simp; done) | (go_simp; with_reducible rfl) | (go_simp; rw [IntKind.wrap_i64]; omega) | (go_simp; omega)
              simp only [Act.put, List.setIfInBounds_toArray, List.set_cons_zero, List.set_cons_succ]
              refine wpAnyH_ready (rs := [4]) (by kernel_rfl) (by simp) ?_
              refine (AllReadyH.cons rfl (fun KK hK => ?_) AllReadyH.nil)
              obtain ⟨jn', v, ej, -, cv_, -⟩ := picked (w' := v0_85) (L := [255, 1, 3, 0]) HB.out (by omega : (0 : Int) ≤ (jn : Int)) (by simp; omega)
              obtain rfl : jn = jn' := by omega
              have hl_ := HB.out.1
              go_simp
              clear cv_ ej hl_
              refine hK.out _ _ (⟨by obtain ⟨q0, R0⟩ := HX.out; exact R0.1.1, trivial⟩) (fun hHeld => ?_)
              clear hK KK
              refine wpAnyH_take (i := 8) (v := .agg #[.int .i64 v, .int .i64 (1 + a)]) rfl (by kernel_rfl) (by kernel_rfl) (by kernel_rfl) (fun _ _ _ h => h) (Or.inl ⟨by kernel_rfl, ?_⟩) hHeld ?_
              · intro w' hSw
                obtain ⟨hz0, htr⟩ := hSw
                first | (go_simp; done) | (go_simp; with_reducible rfl) | (go_simp; rw [IntKind.wrap_i64]; omega) | (go_simp; omega)
              simp only [Act.put, List.setIfInBounds_toArray, List.set_cons_zero, List.set_cons_succ]
              refine wpAnyH_ready (rs := [10]) (by kernel_rfl) (by simp) ?_
              refine (AllReadyH.cons rfl (fun KK hK => ?_) AllReadyH.nil)
              have t0 := HP.out.2.1 0
              have t1 := HP.out.2.1 1
              have tz := HP.out.1
              have d0 := HP.out.2.2 0 _ rfl
              have d1 := HP.out.2.2 1 _ rfl
              go_simp
              obtain ⟨v0_87, hv_⟩ : ∃ z, z = (v0_85.setCell ⟨lp, 0, none⟩ (.int .i64 v)).setCell ⟨lp, 1, none⟩ (.int .i64 (1 + a)) := ⟨_, rfl⟩
              rw [← hv_]
              have b5 : Beside lp v0_85 v0_87 := by rw [hv_]; exact (Beside.setCell lp v0_85 0 _).trans (Beside.setCell lp _ 1 _)
              replace HP : Hid (Blk v0_87 lp [.int .i64 v, .int .i64 (1 + a)]) := by show Blk _ _ _; rw [hv_]; exact (HP.out.set 0 _).set 1 _
              replace HX : Hid (∃ q, LmS w v0_87 r B s n c lv nl cv nl q) := by obtain ⟨q0, R0⟩ := HX.out; exact ⟨q0, R0.other b5 (by have := ZB.out; omega) (fun g hg => by have := ZL.out g hg; omega) (fun g hg => by have := ZC.out g hg; omega)⟩
              clear hv_ b5 t0 t1 tz d0 d1
              refine hK.out _ _ (⟨by obtain ⟨q0, R0⟩ := HX.out; exact R0.1.1, trivial⟩) (fun hHeld => ?_)
              clear hK KK
              refine wpAnyH_done (by kernel_rfl) ?_ _
              clear hHeld
              go_wp2_with fail
              go_meet
              exact ⟨lp, v, 1 + a, rfl, zlp, HX, HP⟩
          · obtain ⟨q0, R0⟩ := HX.out
            have HR0 : Hid (Rd v0_79 r s n c q0) := R0.1
            have zr5 : r < wr.heap.size := by have := ZB.out; omega
            go_simp
            go_wp2_with (first | (go_at_call 43; refine (below_any 4 HR0).mono ?_; rintro e v0_88 ⟨j5, p5, rfl, j0, -, jm, R5, b5⟩))
            replace HP : Hid (Blk v0_88 lp [.int .i64 0, .int .i64 0]) := HP.out.beside b5 (by omega)
            replace HX : Hid (∃ q, LmS w v0_88 r B s n c lv nl cv nl q) := ⟨_, R0.call R5 b5⟩
            have z_v0_88 : wr.heap.size ≤ v0_88.heap.size := Nat.le_trans (by assumption) b5.2.2.2.1
            obtain ⟨jn, rfl⟩ : ∃ jn : Nat, j5 = jn := ⟨j5.toNat, by omega⟩
            have j4 : (jn : Int) < 4 := by omega
            clear jm
            clear R5 b5 R0 HR0
            refine hK.out _ _ (⟨by obtain ⟨q0, R0⟩ := HX.out; exact R0.1.1, trivial⟩) (fun hHeld => ?_)
            clear hK KK
            refine wpAnyH_ready (rs := [0, 6]) (by kernel_rfl) (by simp) ?_
            refine (AllReadyH.cons rfl (fun KK hK => ?_) (AllReadyH.cons rfl (fun KK hK => ?_) AllReadyH.nil))
            · go_simp
              obtain ⟨v0_89, hv_⟩ : ∃ z, z = v0_88.alloc (.cells #[.int .i64 255, .int .i64 1, .int .i64 3, .int .i64 0] 3) := ⟨_, rfl⟩
              rw [← hv_]
              obtain ⟨lb, hlb⟩ : ∃ z, z = v0_88.heap.size := ⟨_, rfl⟩
              have b5 : Below v0_88.heap.size v0_88 v0_89 := by rw [hv_]; exact below0 _ _
              have HB : Hid (Blk v0_89 lb [.int .i64 255, .int .i64 1, .int .i64 3, .int .i64 0]) := by rw [hv_, hlb]; exact Blk.new v0_88 #[.int .i64 255, .int .i64 1, .int .i64 3, .int .i64 0] _
              have zlb : wr.heap.size ≤ lb := by omega
              replace HP : Hid (Blk v0_89 lp [.int .i64 0, .int .i64 0]) := HP.out.below b5
              replace HX : Hid (∃ q, LmS w v0_89 r B s n c lv nl cv nl q) := by obtain ⟨q0, R0⟩ := HX.out; exact ⟨q0, R0.below b5⟩
              have z_v0_89 : wr.heap.size ≤ v0_89.heap.size := Nat.le_trans (by assumption) b5.size
              try rw [← hlb]
              clear hv_ hlb b5
              refine hK.out _ _ (⟨by obtain ⟨q0, R0⟩ := HX.out; exact R0.1.1, trivial⟩) (fun hHeld => ?_)
              clear hK KK
              refine wpAnyH_take (i := 3) (v := .pointer (some ⟨lb, jn, none⟩)) rfl (by kernel_rfl) (by kernel_rfl) (by kernel_rfl) (fun _ _ _ h => h) (Or.inl ⟨by kernel_rfl, ?_⟩) hHeld ?_
              · intro w' hSw
                obtain ⟨hz0, htr⟩ := hSw
                first | (go_simp; done) | (go_simp; with_reducible rfl) | (go_simp; rw [IntKind.wrap_i64]; omega) | (go_simp; omega)
              simp only [Act.put, List.setIfInBounds_toArray, List.set_cons_zero, List.set_cons_succ]
              refine wpAnyH_ready (rs := [4, 6]) (by kernel_rfl) (by simp) ?_
              refine (AllReadyH.cons rfl (fun KK hK => ?_) (AllReadyH.cons rfl (fun KK hK => ?_) AllReadyH.nil))
              · obtain ⟨jn', v, ej, -, cv_, -⟩ := picked (w' := v0_89) (L := [255, 1, 3, 0]) HB.out (by omega : (0 : Int) ≤ (jn : Int)) (by simp; omega)
                obtain rfl : jn = jn' := by omega
                have hl_ := HB.out.1
                go_simp
                clear cv_ ej hl_
                refine hK.out _ _ (⟨by obtain ⟨q0, R0⟩ := HX.out; exact R0.1.1, trivial⟩) (fun hHeld => ?_)
                clear hK KK
                refine wpAnyH_ready (rs := [6]) (by kernel_rfl) (by simp) ?_
                refine (AllReadyH.cons rfl (fun KK hK => ?_) AllReadyH.nil)
                obtain ⟨q0, R0⟩ := HX.out
                have HR0 : Hid (Rd v0_89 r s n c q0) := R0.1
                have zr5 : r < wr.heap.size := by have := ZB.out; omega
                go_simp
                go_wp2_with (first | (go_at_call 44; refine (upto_any 6 (by decide) HR0).mono ?_; rintro e v0_91 ⟨a, p5, rfl, a0, a6, R5, b5⟩))
                replace HB : Hid (Blk v0_91 lb [.int .i64 255, .int .i64 1, .int .i64 3, .int .i64 0]) := HB.out.beside b5 (by omega)
                replace HP : Hid (Blk v0_91 lp [.int .i64 0, .int .i64 0]) := HP.out.beside b5 (by omega)
                replace HX : Hid (∃ q, LmS w v0_91 r B s n c lv nl cv nl q) := ⟨_, R0.call R5 b5⟩
                have z_v0_91 : wr.heap.size ≤ v0_91.heap.size := Nat.le_trans (by assumption) b5.2.2.2.1
                have wa6 : IntKind.i64.wrap (1 + a) = 1 + a := by rw [IntKind.wrap_i64]; omega
                clear R5 b5 R0 HR0
                refine hK.out _ _ (⟨by obtain ⟨q0, R0⟩ := HX.out; exact R0.1.1, trivial⟩) (fun hHeld => ?_)
                clear hK KK
                refine wpAnyH_take (i := 7) (v := .int .i64 (1 + a)) rfl (by kernel_rfl) (by kernel_rfl) (by kernel_rfl) (fun _ _ _ h => h) (Or.inl ⟨by kernel_rfl, ?_⟩) hHeld ?_
                · intro w' hSw
                  obtain ⟨hz0, htr⟩ := hSw
                  first | (go_simp; done) | (go_simp; with_reducible rfl) | (go_simp; rw [IntKind.wrap_i64]; omega) | (go_simp; omega)
                simp only [Act.put, List.setIfInBounds_toArray, List.set_cons_zero, List.set_cons_succ]
                refine wpAnyH_take (i := 8) (v := .agg #[.int .i64 v, .int .i64 (1 + a)]) rfl (by kernel_rfl) (by kernel_rfl) (by kernel_rfl) (fun _ _ _ h => h) (Or.inl ⟨by kernel_rfl, ?_⟩) hHeld ?_
                · intro w' hSw
                  obtain ⟨hz0, htr⟩ := hSw
                  first | (go_simp; done) | (go_simp; with_reducible rfl) | (go_simp; rw [IntKind.wrap_i64]; omega) | (go_simp; omega)
                simp only [Act.put, List.setIfInBounds_toArray, List.set_cons_zero, List.set_cons_succ]
                refine wpAnyH_ready (rs := [10]) (by kernel_rfl) (by simp) ?_
                refine (AllReadyH.cons rfl (fun KK hK => ?_) AllReadyH.nil)
                have t0 := HP.out.2.1 0
                have t1 := HP.out.2.1 1
                have tz := HP.out.1
                have d0 := HP.out.2.2 0 _ rfl
                have d1 := HP.out.2.2 1 _ rfl
                go_simp
                obtain ⟨v0_92, hv_⟩ : ∃ z, z = (v0_91.setCell ⟨lp, 0, none⟩ (.int .i64 v)).setCell ⟨lp, 1, none⟩ (.int .i64 (1 + a)) := ⟨_, rfl⟩
                rw [← hv_]
                have b5 : Beside lp v0_91 v0_92 := by rw [hv_]; exact (Beside.setCell lp v0_91 0 _).trans (Beside.setCell lp _ 1 _)
                replace HP : Hid (Blk v0_92 lp [.int .i64 v, .int .i64 (1 + a)]) := by show Blk _ _ _; rw [hv_]; exact (HP.out.set 0 _).set 1 _
                replace HX : Hid (∃ q, LmS w v0_92 r B s n c lv nl cv nl q) := by obtain ⟨q0, R0⟩ := HX.out; exact ⟨q0, R0.other b5 (by have := ZB.out; omega) (fun g hg => by have := ZL.out g hg; omega) (fun g hg => by have := ZC.out g hg; omega)⟩
                clear hv_ b5 t0 t1 tz d0 d1
                refine hK.out _ _ (⟨by obtain ⟨q0, R0⟩ := HX.out; exact R0.1.1, trivial⟩) (fun hHeld => ?_)
                clear hK KK
                refine wpAnyH_done (by kernel_rfl) ?_ _
                clear hHeld
                go_wp2_with fail
                go_meet
                exact ⟨lp, v, 1 + a, rfl, zlp, HX, HP⟩
              · obtain ⟨q0, R0⟩ := HX.out
                have HR0 : Hid (Rd v0_89 r s n c q0) := R0.1
                have zr5 : r < wr.heap.size := by have := ZB.out; omega
                go_simp
                go_wp2_with (first | (go_at_call 44; refine (upto_any 6 (by decide) HR0).mono ?_; rintro e v0_93 ⟨a, p5, rfl, a0, a6, R5, b5⟩))
                replace HB : Hid (Blk v0_93 lb [.int .i64 255, .int .i64 1, .int .i64 3, .int .i64 0]) := HB.out.beside b5 (by omega)
                replace HP : Hid (Blk v0_93 lp [.int .i64 0, .int .i64 0]) := HP.out.beside b5 (by omega)
                replace HX : Hid (∃ q, LmS w v0_93 r B s n c lv nl cv nl q) := ⟨_, R0.call R5 b5⟩
                have z_v0_93 : wr.heap.size ≤ v0_93.heap.size := Nat.le_trans (by assumption) b5.2.2.2.1
                have wa6 : IntKind.i64.wrap (1 + a) = 1 + a := by rw [IntKind.wrap_i64]; omega
                clear R5 b5 R0 HR0
                refine hK.out _ _ (⟨by obtain ⟨q0, R0⟩ := HX.out; exact R0.1.1, trivial⟩) (fun hHeld => ?_)
                clear hK KK
                refine wpAnyH_take (i := 7) (v := .int .i64 (1 + a)) rfl (by kernel_rfl) (by kernel_rfl) (by kernel_rfl) (fun _ _ _ h => h) (Or.inl ⟨by kernel_rfl, ?_⟩) hHeld ?_
                · intro w' hSw
                  obtain ⟨hz0, htr⟩ := hSw
                  first | (go_simp; done) | (go_simp; with_reducible rfl) | (go_simp; rw [IntKind.wrap_i64]; omega) | (go_simp; omega)
                simp only [Act.put, List.setIfInBounds_toArray, List.set_cons_zero, List.set_cons_succ]
                refine wpAnyH_ready (rs := [4]) (by kernel_rfl) (by simp) ?_
                refine (AllReadyH.cons rfl (fun KK hK => ?_) AllReadyH.nil)
                obtain ⟨jn', v, ej, -, cv_, -⟩ := picked (w' := v0_93) (L := [255, 1, 3, 0]) HB.out (by omega : (0 : Int) ≤ (jn : Int)) (by simp; omega)
                obtain rfl : jn = jn' := by omega
                have hl_ := HB.out.1
                go_simp
                clear cv_ ej hl_
                refine hK.out _ _ (⟨by obtain ⟨q0, R0⟩ := HX.out; exact R0.1.1, trivial⟩) (fun hHeld => ?_)
                clear hK KK
                refine wpAnyH_take (i := 8) (v := .agg #[.int .i64 v, .int .i64 (1 + a)]) rfl (by kernel_rfl) (by kernel_rfl) (by kernel_rfl) (fun _ _ _ h => h) (Or.inl ⟨by kernel_rfl, ?_⟩) hHeld ?_
                · intro w' hSw
                  obtain ⟨hz0, htr⟩ := hSw
                  first | (go_simp; done) | (go_simp; with_reducible rfl) | (go_simp; rw [IntKind.wrap_i64]; omega) | (go_simp; omega)
                simp only [Act.put, List.setIfInBounds_toArray, List.set_cons_zero, List.set_cons_succ]
                refine wpAnyH_ready (rs := [10]) (by kernel_rfl) (by simp) ?_
                refine (AllReadyH.cons rfl (fun KK hK => ?_) AllReadyH.nil)
                have t0 := HP.out.2.1 0
                have t1 := HP.out.2.1 1
                have tz := HP.out.1
                have d0 := HP.out.2.2 0 _ rfl
                have d1 := HP.out.2.2 1 _ rfl
                go_simp
                obtain ⟨v0_95, hv_⟩ : ∃ z, z = (v0_93.setCell ⟨lp, 0, none⟩ (.int .i64 v)).setCell ⟨lp, 1, none⟩ (.int .i64 (1 + a)) := ⟨_, rfl⟩
                rw [← hv_]
                have b5 : Beside lp v0_93 v0_95 := by rw [hv_]; exact (Beside.setCell lp v0_93 0 _).trans (Beside.setCell lp _ 1 _)
                replace HP : Hid (Blk v0_95 lp [.int .i64 v, .int .i64 (1 + a)]) := by show Blk _ _ _; rw [hv_]; exact (HP.out.set 0 _).set 1 _
                replace HX : Hid (∃ q, LmS w v0_95 r B s n c lv nl cv nl q) := by obtain ⟨q0, R0⟩ := HX.out; exact ⟨q0, R0.other b5 (by have := ZB.out; omega) (fun g hg => by have := ZL.out g hg; omega) (fun g hg => by have := ZC.out g hg; omega)⟩
                clear hv_ b5 t0 t1 tz d0 d1
                refine hK.out _ _ (⟨by obtain ⟨q0, R0⟩ := HX.out; exact R0.1.1, trivial⟩) (fun hHeld => ?_)
                clear hK KK
                refine wpAnyH_done (by kernel_rfl) ?_ _
                clear hHeld
                go_wp2_with fail
                go_meet
                exact ⟨lp, v, 1 + a, rfl, zlp, HX, HP⟩
            · obtain ⟨q0, R0⟩ := HX.out
              have HR0 : Hid (Rd v0_88 r s n c q0) := R0.1
              have zr5 : r < wr.heap.size := by have := ZB.out; omega
              go_simp
              go_wp2_with (first | (go_at_call 44; refine (upto_any 6 (by decide) HR0).mono ?_; rintro e v0_96 ⟨a, p5, rfl, a0, a6, R5, b5⟩))
              replace HP : Hid (Blk v0_96 lp [.int .i64 0, .int .i64 0]) := HP.out.beside b5 (by omega)
              replace HX : Hid (∃ q, LmS w v0_96 r B s n c lv nl cv nl q) := ⟨_, R0.call R5 b5⟩
              have z_v0_96 : wr.heap.size ≤ v0_96.heap.size := Nat.le_trans (by assumption) b5.2.2.2.1
              have wa6 : IntKind.i64.wrap (1 + a) = 1 + a := by rw [IntKind.wrap_i64]; omega
              clear R5 b5 R0 HR0
              refine hK.out _ _ (⟨by obtain ⟨q0, R0⟩ := HX.out; exact R0.1.1, trivial⟩) (fun hHeld => ?_)
              clear hK KK
              refine wpAnyH_take (i := 7) (v := .int .i64 (1 + a)) rfl (by kernel_rfl) (by kernel_rfl) (by kernel_rfl) (fun _ _ _ h => h) (Or.inl ⟨by kernel_rfl, ?_⟩) hHeld ?_
              · intro w' hSw
                obtain ⟨hz0, htr⟩ := hSw
                first | (go_simp; done) | (go_simp; with_reducible rfl) | (go_simp; rw [IntKind.wrap_i64]; omega) | (go_simp; omega)
              simp only [Act.put, List.setIfInBounds_toArray, List.set_cons_zero, List.set_cons_succ]
              refine wpAnyH_ready (rs := [0]) (by kernel_rfl) (by simp) ?_
              refine (AllReadyH.cons rfl (fun KK hK => ?_) AllReadyH.nil)
              go_simp
              obtain ⟨v0_97, hv_⟩ : ∃ z, z = v0_96.alloc (.cells #[.int .i64 255, .int .i64 1, .int .i64 3, .int .i64 0] 3) := ⟨_, rfl⟩
              rw [← hv_]
              obtain ⟨lb, hlb⟩ : ∃ z, z = v0_96.heap.size := ⟨_, rfl⟩
              have b5 : Below v0_96.heap.size v0_96 v0_97 := by rw [hv_]; exact below0 _ _
              have HB : Hid (Blk v0_97 lb [.int .i64 255, .int .i64 1, .int .i64 3, .int .i64 0]) := by rw [hv_, hlb]; exact Blk.new v0_96 #[.int .i64 255, .int .i64 1, .int .i64 3, .int .i64 0] _
              have zlb : wr.heap.size ≤ lb := by omega
              replace HP : Hid (Blk v0_97 lp [.int .i64 0, .int .i64 0]) := HP.out.below b5
              replace HX : Hid (∃ q, LmS w v0_97 r B s n c lv nl cv nl q) := by obtain ⟨q0, R0⟩ := HX.out; exact ⟨q0, R0.below b5⟩
              have z_v0_97 : wr.heap.size ≤ v0_97.heap.size := Nat.le_trans (by assumption) b5.size
              try rw [← hlb]
              clear hv_ hlb b5
              refine hK.out _ _ (⟨by obtain ⟨q0, R0⟩ := HX.out; exact R0.1.1, trivial⟩) (fun hHeld => ?_)
              clear hK KK
              refine wpAnyH_take (i := 3) (v := .pointer (some ⟨lb, jn, none⟩)) rfl (by kernel_rfl) (by kernel_rfl) (by kernel_rfl) (fun _ _ _ h => h) (Or.inl ⟨by kernel_rfl, ?_⟩) hHeld ?_
              · intro w' hSw
                obtain ⟨hz0, htr⟩ := hSw
                first | (go_simp; done) | (go_simp; with_reducible rfl) | (go_simp; rw [IntKind.wrap_i64]; omega) | (go_simp; omega)
              simp only [Act.put, List.setIfInBounds_toArray, List.set_cons_zero, List.set_cons_succ]
              refine wpAnyH_ready (rs := [4]) (by kernel_rfl) (by simp) ?_
              refine (AllReadyH.cons rfl (fun KK hK => ?_) AllReadyH.nil)
              obtain ⟨jn', v, ej, -, cv_, -⟩ := picked (w' := v0_97) (L := [255, 1, 3, 0]) HB.out (by omega : (0 : Int) ≤ (jn : Int)) (by simp; omega)
              obtain rfl : jn = jn' := by omega
              have hl_ := HB.out.1
              go_simp
              clear cv_ ej hl_
              refine hK.out _ _ (⟨by obtain ⟨q0, R0⟩ := HX.out; exact R0.1.1, trivial⟩) (fun hHeld => ?_)
              clear hK KK
              refine wpAnyH_take (i := 8) (v := .agg #[.int .i64 v, .int .i64 (1 + a)]) rfl (by kernel_rfl) (by kernel_rfl) (by kernel_rfl) (fun _ _ _ h => h) (Or.inl ⟨by kernel_rfl, ?_⟩) hHeld ?_
              · intro w' hSw
                obtain ⟨hz0, htr⟩ := hSw
                first | (go_simp; done) | (go_simp; with_reducible rfl) | (go_simp; rw [IntKind.wrap_i64]; omega) | (go_simp; omega)
              simp only [Act.put, List.setIfInBounds_toArray, List.set_cons_zero, List.set_cons_succ]
              refine wpAnyH_ready (rs := [10]) (by kernel_rfl) (by simp) ?_
              refine (AllReadyH.cons rfl (fun KK hK => ?_) AllReadyH.nil)
              have t0 := HP.out.2.1 0
              have t1 := HP.out.2.1 1
              have tz := HP.out.1
              have d0 := HP.out.2.2 0 _ rfl
              have d1 := HP.out.2.2 1 _ rfl
              go_simp
              obtain ⟨v0_99, hv_⟩ : ∃ z, z = (v0_97.setCell ⟨lp, 0, none⟩ (.int .i64 v)).setCell ⟨lp, 1, none⟩ (.int .i64 (1 + a)) := ⟨_, rfl⟩
              rw [← hv_]
              have b5 : Beside lp v0_97 v0_99 := by rw [hv_]; exact (Beside.setCell lp v0_97 0 _).trans (Beside.setCell lp _ 1 _)
              replace HP : Hid (Blk v0_99 lp [.int .i64 v, .int .i64 (1 + a)]) := by show Blk _ _ _; rw [hv_]; exact (HP.out.set 0 _).set 1 _
              replace HX : Hid (∃ q, LmS w v0_99 r B s n c lv nl cv nl q) := by obtain ⟨q0, R0⟩ := HX.out; exact ⟨q0, R0.other b5 (by have := ZB.out; omega) (fun g hg => by have := ZL.out g hg; omega) (fun g hg => by have := ZC.out g hg; omega)⟩
              clear hv_ b5 t0 t1 tz d0 d1
              refine hK.out _ _ (⟨by obtain ⟨q0, R0⟩ := HX.out; exact R0.1.1, trivial⟩) (fun hHeld => ?_)
              clear hK KK
              refine wpAnyH_done (by kernel_rfl) ?_ _
              clear hHeld
              go_wp2_with fail
              go_meet
              exact ⟨lp, v, 1 + a, rfl, zlp, HX, HP⟩
      obtain ⟨lp, a, x, rfl, zlp, HX, HP⟩ := hcut
      rename World => w2
      obtain ⟨q2, h2⟩ := HX.out
      have H2 : Hid (LmS w w2 r B s n c lv nl cv nl q2) := h2
      obtain ⟨xs, hU, hXP⟩ := h2.2.2.2.2.2.1
      have HU : Hid (w2.ownsRow B 38 2 lv nl xs) := hU
      have HXP : Hid (RowsP isI isI xs nl) := hXP
      have c0 := HP.out.2.2 0 _ rfl
      have c1 := HP.out.2.2 1 _ rfl
      have cz := HP.out.1
      have zB2 : B ≤ w2.heap.size := h2.2.2.2.2.1
      clear h2 hU hXP HX HL
      go_upto_region 7 with fail
      go_upto_region 8 with (at_builtin; refine list_LimitL B lv nl xs (.tmp 27) (.tmp 29) (by rfl) (by rfl) (by rfl) (by rfl) HU.out (by omega) zB2 ?_; intro g1 cap1 w3 hown hgrow hlt hat; have H3 : Hid (LmS w w3 r B s n c (.slice (some ⟨g1, 0, none⟩) (nl + 1) cap1) (nl + 1) cv nl q2) := H2.out.growL HU.out HXP.out hown hgrow; have HP3 : Hid (Blk w3 lp [.int .i64 a, .int .i64 x]) := HP.out.grownL hgrow (fun e => by have := ZL.out lp e; omega); have zg1 : Hid (g1 ≠ lp) := (fun e => by subst e; rcases hat with e | e; (have := ZL.out g1 e; omega); omega); clear hown hgrow hlt hat)
      clear c0 c1 cz H2 HU HXP HP
      have c0 := HP3.out.2.2 0 _ rfl
      have c1 := HP3.out.2.2 1 _ rfl
      have cz := HP3.out.1
      go_wp2_with fail
      refine (near_all (-1) x H3.1).mono ?_
      rintro e w4 ⟨y, p4, rfl, R4, b4⟩
      have H4 : Hid (LmS w w4 r B s n c (.slice (some ⟨g1, 0, none⟩) (nl + 1) cap1) (nl + 1) cv nl p4) := H3.out.call R4 b4
      have HP4 : Hid (Blk w4 lp [.int .i64 a, .int .i64 x]) := HP3.out.beside b4 (by have := ZB.out; omega)
      clear R4 b4 c0 c1 cz H3 HP3
      have c0 := HP4.out.2.2 0 _ rfl
      have c1 := HP4.out.2.2 1 _ rfl
      have cz := HP4.out.1
      go_upto_region 10 with fail
      obtain ⟨w5, hw5⟩ : ∃ z, z = w4.alloc (.cells #[.int .i64 y, .bool (y == x)] 29) := ⟨_, rfl⟩
      rw [← hw5]
      obtain ⟨gc, hgc⟩ : ∃ z, z = w4.heap.size := ⟨_, rfl⟩
      have H5 : Hid (LmS w w5 r B s n c (.slice (some ⟨g1, 0, none⟩) (nl + 1) cap1) (nl + 1) cv nl p4) := by show LmS _ _ _ _ _ _ _ _ _ _ _ _; rw [hw5]; exact H4.out.below (below0 _ _)
      have HC5 : Hid (Blk w5 gc [.int .i64 y, .bool (y == x)]) := by rw [hw5, hgc]; exact Blk.new w4 #[.int .i64 y, .bool (y == x)] _
      try rw [← hgc]
      obtain ⟨ys, hU, hYP⟩ := H5.out.2.2.2.2.2.2
      have HU : Hid (w5.ownsRow B 29 2 cv nl ys) := hU
      have HYP : Hid (RowsP isI isB ys nl) := hYP
      have zB5 : B ≤ w5.heap.size := H5.out.2.2.2.2.1
      clear c0 c1 cz H4 HP4 hw5 hgc hU hYP
      have c0 := HC5.out.2.2 0 _ rfl
      have c1 := HC5.out.2.2 1 _ rfl
      have cz := HC5.out.1
      go_wp2_with (at_builtin; refine list_Clock B cv nl ys (.tmp 42) (.tmp 44) (by rfl) (by rfl) (by rfl) (by rfl) HU.out (by omega) zB5 ?_; intro g2 cap2 w6 hown hgrow hlt hat; have H6 : Hid (LmS w w6 r B s n c (.slice (some ⟨g1, 0, none⟩) (nl + 1) cap1) (nl + 1) (.slice (some ⟨g2, 0, none⟩) (nl + 1) cap2) (nl + 1) p4) := H5.out.growC HU.out HYP.out hown hgrow; clear hown hgrow hlt hat)
      go_roundw
      case rel => exact ⟨_, _, k', nl + 1, p4, rfl, rfl, by first | rfl | go_num, by have := HKK.out; omega, by omega, H6⟩
      case measure => have := HKK.out; simp [intOf]; omega
    case neg =>
      obtain rfl : k = 0 := by omega
      have nl1 : 1 ≤ nl := by omega
      have nl2 : nl ≤ 11 := by omega
      clear hk hk3 hk4
      go_wp2_with fail
      refine (below_any 40 HL.1).mono ?_
      rintro e w1 ⟨j, p1, rfl, -, -, -, R1, b1⟩
      have H1 : Hid (LmS w w1 r B s n c lv nl cv nl p1) := HL.out.call R1 b1
      clear R1 b1 HL
      obtain ⟨nc, hnc⟩ : ∃ z, nl = z := ⟨_, rfl⟩
      have hnc' : Hid (nl = nc) := hnc
      have H1 : Hid (LmS w w1 r B s n c lv nl cv nc p1) := by show LmS _ _ _ _ _ _ _ _ _ _ _ _; rw [← hnc]; exact H1.out
      have nc1 : 1 ≤ nc := by omega
      have nc2 : nc ≤ 11 := by omega
      clear hnc
      obtain ⟨gl, kl, rfl, -⟩ := H1.out.atL nl1
      obtain ⟨gk, kk, rfl, -⟩ := H1.out.atC nc1
      by_cases e0 : j = 0
      case pos =>
        subst e0
        go_wp2_with fail
        refine (off_all 0 255 H1.1).mono ?_
        rintro e w2 ⟨x, p2, rfl, R2, b2⟩
        have H2 : Hid (LmS w w2 r B s n c (.slice (some ⟨gl, 0, none⟩) nl kl) nl (.slice (some ⟨gk, 0, none⟩) nc kk) nc p2) := H1.out.call R2 b2
        clear R2 b2 H1
        obtain ⟨g', k', eg, -, zg, fz, ⟨x0, c0⟩, ⟨x1, c1⟩, hkk⟩ := H2.out.atL nl1
        cases eg
        have f_ := fz 0
        have n0 : (0 : Int) < (nl : Int) := by omega
        have HK : Hid (∀ k, (Value.ownBlock (.slice (some ⟨gk, 0, none⟩) nc kk)) = some k → k ≠ gl) := hkk
        clear hkk fz
        have hst := store_slT
        go_upto_region 25 with fail
        obtain ⟨w3, hw3⟩ : ∃ z, z = w2.setCell ⟨gl, 0, none⟩ (.int .i64 x) := ⟨_, rfl⟩
        rw [← hw3]
        have H3 : Hid (LmS w w3 r B s n c (.slice (some ⟨gl, 0, none⟩) nl kl) nl (.slice (some ⟨gk, 0, none⟩) nc kk) nc p2) := by show LmS _ _ _ _ _ _ _ _ _ _ _ _; rw [hw3]; exact H2.out.setL 0 (by omega) x HK.out
        clear hw3 c0 c1 f_ zg H2 HK
        have hp : LimPost r s n c w (.returned (.tuple #[(.slice (some ⟨gl, 0, none⟩) nl kl), (.slice (some ⟨gk, 0, none⟩) nc kk)])) w3 := ⟨B, (.slice (some ⟨gl, 0, none⟩) nl kl), nl, (.slice (some ⟨gk, 0, none⟩) nc kk), nc, p2, rfl, by omega, by omega, by omega, H3.out⟩
        unfold LimPost at hp
        go_wp2
        exact bodyPost_ret (v := .tuple #[(.slice (some ⟨gl, 0, none⟩) nl kl), (.slice (some ⟨gk, 0, none⟩) nc kk)]) (by simp [results, Tryd.results28, go_sem]) rfl (by first | exact hp | exact ⟨B, (.slice (some ⟨gl, 0, none⟩) nl kl), nl, (.slice (some ⟨gk, 0, none⟩) nc kk), rfl, by omega, by omega, nc, by omega, p2, H3.out⟩)
      have b0 : (j == 0) = false := beq_false_of_ne e0
      by_cases e1 : j = 1
      case pos =>
        subst e1
        go_wp2_with fail
        refine (off_all 1 10000 H1.1).mono ?_
        rintro e w2 ⟨x, p2, rfl, R2, b2⟩
        have H2 : Hid (LmS w w2 r B s n c (.slice (some ⟨gl, 0, none⟩) nl kl) nl (.slice (some ⟨gk, 0, none⟩) nc kk) nc p2) := H1.out.call R2 b2
        clear R2 b2 H1
        obtain ⟨g', k', eg, -, zg, fz, ⟨x0, c0⟩, ⟨x1, c1⟩, hkk⟩ := H2.out.atL nl1
        cases eg
        have f_ := fz 1
        have n0 : (0 : Int) < (nl : Int) := by omega
        have HK : Hid (∀ k, (Value.ownBlock (.slice (some ⟨gk, 0, none⟩) nc kk)) = some k → k ≠ gl) := hkk
        clear hkk fz
        have hst := store_slT
        go_upto_region 25 with fail
        obtain ⟨w3, hw3⟩ : ∃ z, z = w2.setCell ⟨gl, 1, none⟩ (.int .i64 x) := ⟨_, rfl⟩
        rw [← hw3]
        have H3 : Hid (LmS w w3 r B s n c (.slice (some ⟨gl, 0, none⟩) nl kl) nl (.slice (some ⟨gk, 0, none⟩) nc kk) nc p2) := by show LmS _ _ _ _ _ _ _ _ _ _ _ _; rw [hw3]; exact H2.out.setL 1 (by omega) x HK.out
        clear hw3 c0 c1 f_ zg H2 HK
        have hp : LimPost r s n c w (.returned (.tuple #[(.slice (some ⟨gl, 0, none⟩) nl kl), (.slice (some ⟨gk, 0, none⟩) nc kk)])) w3 := ⟨B, (.slice (some ⟨gl, 0, none⟩) nl kl), nl, (.slice (some ⟨gk, 0, none⟩) nc kk), nc, p2, rfl, by omega, by omega, by omega, H3.out⟩
        unfold LimPost at hp
        go_wp2
        exact bodyPost_ret (v := .tuple #[(.slice (some ⟨gl, 0, none⟩) nl kl), (.slice (some ⟨gk, 0, none⟩) nc kk)]) (by simp [results, Tryd.results28, go_sem]) rfl (by first | exact hp | exact ⟨B, (.slice (some ⟨gl, 0, none⟩) nl kl), nl, (.slice (some ⟨gk, 0, none⟩) nc kk), rfl, by omega, by omega, nc, by omega, p2, H3.out⟩)
      have b1 : (j == 1) = false := beq_false_of_ne e1
      by_cases e2 : j = 2
      case pos =>
        subst e2
        obtain ⟨g', k', eg, -, zg, fz, ⟨x0, c0⟩, ⟨x1, c1⟩, hkk⟩ := H1.out.atC nc1
        cases eg
        have f_ := fz 1
        have n0 : (0 : Int) < (nc : Int) := by omega
        have HK : Hid (∀ k, (Value.ownBlock (.slice (some ⟨gl, 0, none⟩) nl kl)) = some k → k ≠ gk) := hkk
        clear hkk fz
        have hst := store_slT
        go_upto_region 25 with fail
        obtain ⟨w3, hw3⟩ : ∃ z, z = w1.setCell ⟨gk, 1, none⟩ (.bool (!x1)) := ⟨_, rfl⟩
        rw [← hw3]
        have H3 : Hid (LmS w w3 r B s n c (.slice (some ⟨gl, 0, none⟩) nl kl) nl (.slice (some ⟨gk, 0, none⟩) nc kk) nc p1) := by show LmS _ _ _ _ _ _ _ _ _ _ _ _; rw [hw3]; exact H1.out.setC (!x1) HK.out
        clear hw3 c0 c1 f_ zg H1 HK
        have hp : LimPost r s n c w (.returned (.tuple #[(.slice (some ⟨gl, 0, none⟩) nl kl), (.slice (some ⟨gk, 0, none⟩) nc kk)])) w3 := ⟨B, (.slice (some ⟨gl, 0, none⟩) nl kl), nl, (.slice (some ⟨gk, 0, none⟩) nc kk), nc, p1, rfl, by omega, by omega, by omega, H3.out⟩
        unfold LimPost at hp
        go_wp2
        exact bodyPost_ret (v := .tuple #[(.slice (some ⟨gl, 0, none⟩) nl kl), (.slice (some ⟨gk, 0, none⟩) nc kk)]) (by simp [results, Tryd.results28, go_sem]) rfl (by first | exact hp | exact ⟨B, (.slice (some ⟨gl, 0, none⟩) nl kl), nl, (.slice (some ⟨gk, 0, none⟩) nc kk), rfl, by omega, by omega, nc, by omega, p1, H3.out⟩)
      have b2 : (j == 2) = false := beq_false_of_ne e2
      by_cases e3 : j = 3
      case pos =>
        subst e3
        obtain ⟨ys, hU, hYP⟩ := H1.out.2.2.2.2.2.2
        have HU : Hid (w1.ownsRow B 29 2 (.slice (some ⟨gk, 0, none⟩) nc kk) nc ys) := hU
        have HYP : Hid (RowsP isI isB ys nc) := hYP
        have zB5 : B ≤ w1.heap.size := H1.out.2.2.2.2.1
        clear hU hYP
        go_upto_region 25 with (at_builtin; refine list_Clock (x0 := (-1)) (x1 := false) B (.slice (some ⟨gk, 0, none⟩) nc kk) nc ys (.tmp 74) (.tmp 76) (by rfl) (by rfl) (by rfl) (by rfl) HU.out (by omega) zB5 ?_; intro g2 cap2 w3 hown hgrow hlt hat; have H3 : Hid (LmS w w3 r B s n c (.slice (some ⟨gl, 0, none⟩) nl kl) nl (.slice (some ⟨g2, 0, none⟩) (nc + 1) cap2) (nc + 1) p1) := H1.out.growC HU.out HYP.out hown hgrow; clear hown hgrow hlt hat)
        clear HU HYP zB5
        have hp : LimPost r s n c w (.returned (.tuple #[(.slice (some ⟨gl, 0, none⟩) nl kl), (.slice (some ⟨g2, 0, none⟩) (nc + 1) cap2)])) w3 := ⟨B, (.slice (some ⟨gl, 0, none⟩) nl kl), nl, (.slice (some ⟨g2, 0, none⟩) (nc + 1) cap2), (nc + 1), p1, rfl, by omega, by omega, by omega, H3.out⟩
        unfold LimPost at hp
        go_wp2
        exact bodyPost_ret (v := .tuple #[(.slice (some ⟨gl, 0, none⟩) nl kl), (.slice (some ⟨g2, 0, none⟩) (nc + 1) cap2)]) (by simp [results, Tryd.results28, go_sem]) rfl (by first | exact hp | exact ⟨B, (.slice (some ⟨gl, 0, none⟩) nl kl), nl, (.slice (some ⟨g2, 0, none⟩) (nc + 1) cap2), rfl, by omega, by omega, (nc + 1), by omega, p1, H3.out⟩)
      have b3 : (j == 3) = false := beq_false_of_ne e3
      by_cases e4 : j = 4
      case pos =>
        subst e4
        go_wp2_with fail
        refine (below_any 2 H1.1).mono ?_
        rintro e w2 ⟨z, p2, rfl, z0, -, z1, R2, b2⟩
        have H2 : Hid (LmS w w2 r B s n c (.slice (some ⟨gl, 0, none⟩) nl kl) nl (.slice (some ⟨gk, 0, none⟩) nc kk) nc p2) := H1.out.call R2 b2
        obtain ⟨mm, hmm⟩ : ∃ mm : Nat, 60 + z = (mm : Int) := ⟨(60 + z).toNat, by omega⟩
        have wm : IntKind.i64.wrap (60 + z) = (mm : Int) := by rw [IntKind.wrap_i64]; omega
        have mm1 : mm ≤ 61 := by omega
        clear R2 b2 H1 z0 z1
        go_upto_region 22 with fail
        try rw [hmm]
        clear hmm wm
        go_loopw [4, 5] (fun l c' wr => ∃ (lv cv : Value) (nl nc q : Nat), lv = l ∧ cv = c' ∧ 1 ≤ nl ∧ nl ≤ 61 ∧ 1 ≤ nc ∧ nc ≤ 61 ∧ nl = nc ∧ Hid (LmS w wr r B s n c lv nl cv nc q)) (fun l _ _ => mm - lenL l)
        case atStart => exact ⟨_, _, nl, nc, p2, rfl, rfl, nl1, by omega, nc1, by omega, hnc'.out, H2⟩
        case round =>
          clear H2 nl1 nl2 nc1 nc2 hnc'
          obtain ⟨lv, cv, nl, nc, q, rfl, rfl, nl1, nl2, nc1, nc2, hnc, HL⟩ := hrel
          rename World => wr
          obtain ⟨gl, kl, rfl, -, zg, fz, ⟨x0, c0⟩, ⟨x1, c1⟩, -⟩ := HL.out.atL nl1
          obtain ⟨gk, kk, rfl, -⟩ := HL.out.atC nc1
          have n0 : (0 : Int) < (nl : Int) := by omega
          have n0' : (0 : Int) < (nc : Int) := by omega
          have HNC : Hid (nl = nc) := hnc
          clear hnc fz
          by_cases hl : nl < mm
          case pos =>
            have li : (nl : Int) < (mm : Int) := by omega
            obtain ⟨xs, hU, hXP⟩ := HL.out.2.2.2.2.2.1
            have HU : Hid (wr.ownsRow B 38 2 (.slice (some ⟨gl, 0, none⟩) nl kl) nl xs) := hU
            have HXP : Hid (RowsP isI isI xs nl) := hXP
            have zB2 : B ≤ wr.heap.size := HL.out.2.2.2.2.1
            clear hU hXP
            go_upto_region 23 with fail
            go_upto_region 24 with (at_builtin; refine list_LimitL B (.slice (some ⟨gl, 0, none⟩) nl kl) nl xs (.tmp 87) (.tmp 91) (by rfl) (by rfl) (by rfl) (by rfl) HU.out (by omega) zB2 ?_; intro g1 cap1 w3 hown hgrow hlt hat; have H3 : Hid (LmS w w3 r B s n c (.slice (some ⟨g1, 0, none⟩) (nl + 1) cap1) (nl + 1) (.slice (some ⟨gk, 0, none⟩) nc kk) nc q) := HL.out.growL HU.out HXP.out hown hgrow; clear hown hgrow hlt hat)
            clear c0 c1 zg HL HU HXP zB2
            obtain ⟨g', k', eg, -, zg, fz, ⟨x0, c0⟩, ⟨x1, c1⟩, -⟩ := H3.out.atC nc1
            cases eg
            clear fz
            obtain ⟨ys, hU, hYP⟩ := H3.out.2.2.2.2.2.2
            have HU : Hid (w3.ownsRow B 29 2 (.slice (some ⟨gk, 0, none⟩) nc kk) nc ys) := hU
            have HYP : Hid (RowsP isI isB ys nc) := hYP
            have zB5 : B ≤ w3.heap.size := H3.out.2.2.2.2.1
            clear hU hYP
            go_wp2_with (at_builtin; refine list_Clock (x0 := x0) (x1 := x1) B (.slice (some ⟨gk, 0, none⟩) nc kk) nc ys (.tmp 93) (.tmp 97) (by rfl) (by rfl) (by rfl) (by rfl) HU.out (by omega) zB5 ?_; intro g2 cap2 w6 hown hgrow hlt hat; have H6 : Hid (LmS w w6 r B s n c (.slice (some ⟨g1, 0, none⟩) (nl + 1) cap1) (nl + 1) (.slice (some ⟨g2, 0, none⟩) (nc + 1) cap2) (nc + 1) q) := H3.out.growC HU.out HYP.out hown hgrow; clear hown hgrow hlt hat)
            clear HU HYP zB5
            go_roundw
            case rel => exact ⟨_, _, nl + 1, nc + 1, q, rfl, rfl, by omega, by omega, by omega, by (have := HNC.out; omega), by (have := HNC.out; omega), H6⟩
            case measure => simp [lenL]; omega
          case neg =>
            have li : ¬ (nl : Int) < (mm : Int) := by omega
            clear c0 c1 zg
            have hp : LimPost r s n c w (.returned (.tuple #[(.slice (some ⟨gl, 0, none⟩) nl kl), (.slice (some ⟨gk, 0, none⟩) nc kk)])) wr := ⟨B, (.slice (some ⟨gl, 0, none⟩) nl kl), nl, (.slice (some ⟨gk, 0, none⟩) nc kk), nc, q, rfl, by omega, by omega, by omega, HL.out⟩
            unfold LimPost at hp
            go_wp2
            exact bodyPost_ret (v := .tuple #[(.slice (some ⟨gl, 0, none⟩) nl kl), (.slice (some ⟨gk, 0, none⟩) nc kk)]) (by simp [results, Tryd.results28, go_sem]) rfl (by first | exact hp | exact ⟨B, (.slice (some ⟨gl, 0, none⟩) nl kl), nl, (.slice (some ⟨gk, 0, none⟩) nc kk), rfl, by omega, by omega, nc, by omega, q, HL.out⟩)
      have b4 : (j == 4) = false := beq_false_of_ne e4
      clear e0 e1 e2 e3 e4
      have hp : LimPost r s n c w (.returned (.tuple #[(.slice (some ⟨gl, 0, none⟩) nl kl), (.slice (some ⟨gk, 0, none⟩) nc kk)])) w1 := ⟨B, (.slice (some ⟨gl, 0, none⟩) nl kl), nl, (.slice (some ⟨gk, 0, none⟩) nc kk), nc, p1, rfl, by omega, by omega, by omega, H1.out⟩
      unfold LimPost at hp
      go_wp2
      exact bodyPost_ret (v := .tuple #[(.slice (some ⟨gl, 0, none⟩) nl kl), (.slice (some ⟨gk, 0, none⟩) nc kk)]) (by simp [results, Tryd.results28, go_sem]) rfl (by first | exact hp | exact ⟨B, (.slice (some ⟨gl, 0, none⟩) nl kl), nl, (.slice (some ⟨gk, 0, none⟩) nc kk), rfl, by omega, by omega, nc, by omega, p1, H1.out⟩)
end Go.Proofs.YtmoeoepinlcmdaaDoor
