/-
What is proved: DrawDistance: any zones, any voltage, any current.
-/
import Derived.Test.YtedkhhocbnldjaaZnM
import Derived.Test.YtedkhhocbnldjaaZl
import Derived.Test.YtedkhhocbnldjaaOwn
import Derived.Deep.AppendLies
import Derived.Laws.OwnMore
namespace Go.Proofs.Ytedkhhocbnldjaa
set_option maxRecDepth 40000
open Go.ChangeShapes Go.WideShapes Go.ChangeAt Go.RowKit
set_option linter.unusedVariables false
set_option linter.unusedSimpArgs false

def zvL (C E R : Nat → Nat) (T : Nat → Int) : Nat → List Value
  | 0 => []
  | k + 1 => zvL C E R T k ++ [.float .f64 (C k), .float .f64 (E k), .float .f64 (R k), .int .i64 (T k)]
theorem zvL_len (C E R : Nat → Nat) (T : Nat → Int) : ∀ k, (zvL C E R T k).length = k * 4
  | 0 => rfl
  | k + 1 => by
    show (zvL C E R T k ++ _).length = _
    rw [List.length_append, zvL_len C E R T k]
    simp
    omega
theorem zvL_at (C E R : Nat → Nat) (T : Nat → Int) : ∀ (k j : Nat), j < k * 4 → (zvL C E R T k)[j]? = some (zV C E R T j)
  | 0, j, h => by omega
  | k + 1, j, h => by
    show (zvL C E R T k ++ _)[j]? = _
    by_cases q : j < k * 4
    · rw [List.getElem?_append_left (by rw [zvL_len]; exact q)]
      exact zvL_at C E R T k j q
    · rw [List.getElem?_append_right (by rw [zvL_len]; omega), zvL_len]
      have hc : j = k * 4 ∨ j = k * 4 + 1 ∨ j = k * 4 + 2 ∨ j = k * 4 + 3 := by omega
      rcases hc with rfl | rfl | rfl | rfl
      · rw [zV0, Nat.sub_self]; rfl
      · rw [zV1, show k * 4 + 1 - k * 4 = 1 by omega]; rfl
      · rw [zV2, show k * 4 + 2 - k * 4 = 2 by omega]; rfl
      · rw [zV3, show k * 4 + 3 - k * 4 = 3 by omega]; rfl
theorem zvL_ext {C C' E E' R R' : Nat → Nat} {T T' : Nat → Int} : ∀ k, (∀ j, j < k → C j = C' j ∧ E j = E' j ∧ R j = R' j ∧ T j = T' j) → zvL C E R T k = zvL C' E' R' T' k
  | 0, _ => rfl
  | k + 1, h => by
    show zvL C E R T k ++ _ = zvL C' E' R' T' k ++ _
    obtain ⟨h1, h2, h3, h4⟩ := h k (by omega)
    rw [zvL_ext k (fun j hj => h j (by omega)), h1, h2, h3, h4]
/-- Zones on their way, beside a reader and two answers. -/
def ZnS (w : World) (r : Nat) (s : Option Addr) (n c gp gq b p k : Nat) (v : Value) (W : World) : Prop := Rd W r s n c p ∧ Below w.heap.size w W ∧ Blk W gp [.float .f64 0, .float .f64 0] ∧ Blk W gq [.float .f64 0, .float .f64 0] ∧ (∃ C E R T, W.ownsRow b 30 4 v k (zvL C E R T k) ∧ ∀ j, j < k → C j < 18446744073709551616 ∧ E j < 18446744073709551616 ∧ R j < 18446744073709551616) ∧ (w.heap.size ≤ gp ∧ gp < gq ∧ gq < r ∧ r < b ∧ b ≤ W.heap.size)
theorem own_keptZ {base : Nat} {w w' : World} {T : TypeId} {M : Nat} {v : Value} {n : Nat} {xs : List Value} (h : w.ownsRow base T M v n xs) (hk : ∀ g, base ≤ g → g < w.heap.size → w'.heap[g]? = w.heap[g]?) : w'.ownsRow base T M v n xs := by
  refine ⟨h.1, ?_⟩
  rcases h.2 with q | ⟨g, cap, cur, e, hb, hg, r⟩
  · exact .inl q
  · exact .inr ⟨g, cap, cur, e, hb, (hk g hb (Array.getElem?_eq_some_iff.1 hg).1).trans hg, r⟩
theorem ZnS.read {w : World} {r : Nat} {s : Option Addr} {n c gp gq b p p' k : Nat} {v : Value} {W W' : World} (h : ZnS w r s n c gp gq b p k v W) (hR : Rd W' r s n c p') (hb : Beside r W W') : ZnS w r s n c gp gq b p' k v W' := by
  obtain ⟨h1, h2, h3, h4, ⟨C, E, R, T, h5, h5b⟩, h6⟩ := h
  exact ⟨hR, h2.trans (hb.below (by omega) h2.size), h3.beside hb (by omega), h4.beside hb (by omega), ⟨C, E, R, T, own_keptZ h5 (fun g hg hz => hb.2.2.2.2 g hz (by omega)), h5b⟩, h6.1, h6.2.1, h6.2.2.1, h6.2.2.2.1, Nat.le_trans h6.2.2.2.2 hb.2.2.2.1⟩
theorem ZnS.below {w : World} {r : Nat} {s : Option Addr} {n c gp gq b p k : Nat} {v : Value} {W W' : World} (h : ZnS w r s n c gp gq b p k v W) (hb : Below W.heap.size W W') : ZnS w r s n c gp gq b p k v W' := h.read (h.1.below hb) (Beside.of hb)
theorem info_Zn : (Try.prog.info? 30).map (fun i => (i.zero, i.size, i.bytes)) = some (some (.agg #[.float .f64 0, .float .f64 0, .float .f64 0, .int .i64 0]), 4, 32) := by kernel_rfl
theorem newsZn (W : World) (a b c d : Value) (t : TypeId) : ∀ j u, [a, b, c, d][j]? = some u → (W.alloc (.cells #[a, b, c, d] t)).cell? ((⟨W.heap.size, 0, none⟩ : Addr).add j) = some u := World.news_of_block (cs := #[a, b, c, d]) (heap_alloc_new W _)
theorem zn_one {ops : Array Oper} {rest : List Oper} {o : Oper} {a : Act} {Q : Exit → Act → World → Prop} {W : World} {tt : TypeId} {zc ze zq : Nat} {zt : Int} {w : World} {r : Nat} {s : Option Addr} {n c gp gq b p k : Nat} {v : Value} (x z : Operand) (hgd : o.guard = none)
    (ho : o.op = .call { callee := .builtin .append, args := #[x, z], argTypes := #[37, 37] }) (hs : a.eval x = v) (hx : a.eval z = .slice (some ⟨W.heap.size, 0, none⟩) 1 1) (hown : ZnS w r s n c gp gq b p k v W) (hk : k ≤ 1000) (hb : zc < 18446744073709551616 ∧ ze < 18446744073709551616 ∧ zq < 18446744073709551616)
    (h : ∀ g cap w', ZnS w r s n c gp gq b p (k + 1) (.slice (some ⟨g, 0, none⟩) (k + 1) cap) w' → W.grownBy w' v.ownBlock → (v.ownBlock = some g ∨ W.heap.size < g) → wpList Try.prog ops Q rest (a.put o.dst (.slice (some ⟨g, 0, none⟩) (k + 1) cap)) w') :
    wpList Try.prog ops Q (o :: rest) a (W.alloc (.cells #[.float .f64 zc, .float .f64 ze, .float .f64 zq, .int .i64 zt] tt)) := by
  obtain ⟨i0, hi, hz0, hz1, hz2⟩ := info_parts info_Zn
  obtain ⟨h1, h2, h3, h4, ⟨C, E, R, T, h5, h5b⟩, h6⟩ := hown
  refine wpList_append_lies _ hgd x z 37 ho b 30 i0 (.agg #[.float .f64 0, .float .f64 0, .float .f64 0, .int .i64 0]) 4 32 Try.underlying37 hi hz0 hz1 hz2 rfl (by decide) v k _ hs (h5.alloc _) ⟨W.heap.size, 0, none⟩ 1 1 [.float .f64 zc, .float .f64 ze, .float .f64 zq, .int .i64 zt] hx rfl (newsZn _ _ _ _ _ _) ?_ (by decide) (by unfold maxLen; omega) (by omega) (by simp; omega) _ rfl ?_
  · intro u hu
    simp at hu
    rcases hu with rfl | rfl | rfl | rfl <;> rfl
  · intro g cap w' q1 q2 q4 q3
    have gr := grown_new q2
    have bb : Below b W w' := grown_below gr h6.2.2.2.2 (own_block h5)
    refine h g cap w' ⟨h1.below' (bb.mono (by omega)), h2.trans (bb.mono (by omega)), h3.belowB bb (by omega), h4.belowB bb (by omega), ⟨fun j => if j = k then zc else C j, fun j => if j = k then ze else E j, fun j => if j = k then zq else R j, fun j => if j = k then zt else T j, ?_, fun j hj => ?_⟩, h6.1, h6.2.1, h6.2.2.1, h6.2.2.2.1, Nat.le_trans h6.2.2.2.2 bb.size⟩ gr (q4.imp id (fun e => by rw [e]; simp))
    · have e : zvL (fun j => if j = k then zc else C j) (fun j => if j = k then ze else E j) (fun j => if j = k then zq else R j) (fun j => if j = k then zt else T j) (k + 1) = zvL C E R T k ++ [.float .f64 zc, .float .f64 ze, .float .f64 zq, .int .i64 zt] := by
        show zvL _ _ _ _ k ++ [.float .f64 (if k = k then zc else C k), .float .f64 (if k = k then ze else E k), .float .f64 (if k = k then zq else R k), .int .i64 (if k = k then zt else T k)] = _
        simp only [if_true]
        rw [zvL_ext (C' := C) (E' := E) (R' := R) (T' := T) k (fun j hj => by simp only [if_neg (show ¬ j = k by omega)]; exact ⟨trivial, trivial, trivial, trivial⟩)]
      rw [e]
      exact q1
    · by_cases e : j = k
      · simp only [if_pos e]; exact hb
      · simp only [if_neg e]; exact h5b j (by omega)
theorem ZnS.row {w : World} {r : Nat} {s : Option Addr} {n c gp gq b p k : Nat} {v : Value} {W : World} (h : ZnS w r s n c gp gq b p k v W) : ∃ t cap C E R T, v = .slice t k cap ∧ RowX W t (k * 4) (zV C E R T) ∧ (∀ j, j < k → C j < 18446744073709551616 ∧ E j < 18446744073709551616 ∧ R j < 18446744073709551616) ∧ ∀ j, j < k * 4 → ∃ g, t = some ⟨g, 0, none⟩ ∧ b ≤ g ∧ g < W.heap.size := by
  obtain ⟨h1, h2, h3, h4, ⟨C, E, R, T, h5, h5b⟩, h6⟩ := h
  rcases h5.2 with ⟨e, q⟩ | ⟨g, cap, cur, e, hb, hg, r⟩
  · exact ⟨none, 0, C, E, R, T, by rw [e, q], fun j hj => by omega, h5b, fun j hj => by omega⟩
  · subst e
    refine ⟨_, cap, C, E, R, T, rfl, fun j hj => ⟨g, 0, rfl, (Array.getElem?_eq_some_iff.1 hg).1, ?_⟩, h5b, fun j hj => ⟨g, rfl, hb, (Array.getElem?_eq_some_iff.1 hg).1⟩⟩
    rw [Nat.zero_add, h5.cellAt j (by omega)]
    exact zvL_at C E R T k j hj
def lenZ : Value → Nat
  | .slice _ n _ => n
  | _ => 0
theorem RowX.setB {w : World} {g m q i : Nat} {V : Nat → Value} {v : Value} (h : RowX w (some ⟨g, 0, none⟩) m V) (hn : q ≠ g) : RowX (w.setCell ⟨q, i, none⟩ v) (some ⟨g, 0, none⟩) m V := fun j hj => by
  obtain ⟨b, o, e, hl, hc⟩ := h j hj
  cases e
  have hb := Beside.setCell q w i v
  exact ⟨g, 0, rfl, Nat.lt_of_lt_of_le hl hb.2.2.2.1, (hb.cell (p := ⟨g, 0 + j, none⟩) hl (fun e => hn e.symm)).trans hc⟩
theorem RowX.drw {w : World} {s : Option Addr} {m : Nat} {V : Nat → Value} (h : RowX w s m V) : RowX w.drew s m V := h.below (Below.drew (Below.refl _ _))
def DdPost (w : World) (e : Ending) (w' : World) : Prop := ∃ (t : Option Addr) (k cap : Nat) (C E R : Nat → Nat) (T : Nat → Int) (x y z u : Nat), e = .returned (.tuple #[.slice t k cap, .agg #[.float .f64 x, .float .f64 y], .agg #[.float .f64 z, .float .f64 u]]) ∧ k ≤ 1000 ∧ RowX w' t (k * 4) (zV C E R T) ∧ (∀ j, j < k → C j < 18446744073709551616 ∧ E j < 18446744073709551616 ∧ R j < 18446744073709551616) ∧ (x < 18446744073709551616 ∧ y < 18446744073709551616 ∧ z < 18446744073709551616 ∧ u < 18446744073709551616) ∧ Below w.heap.size w w'
theorem RowX.four {w : World} {t : Option Addr} {k : Nat} {C E R : Nat → Nat} {T : Nat → Int} (h : RowX w t (k * 4) (zV C E R T)) {i : Nat} (hi : i < k) : ∃ g o, t = some ⟨g, o, none⟩ ∧ g < w.heap.size ∧ w.cell? ⟨g, o + i * 4, none⟩ = some (.float .f64 (C i)) ∧ w.cell? ⟨g, o + i * 4 + 1, none⟩ = some (.float .f64 (E i)) ∧ w.cell? ⟨g, o + i * 4 + 2, none⟩ = some (.float .f64 (R i)) ∧ w.cell? ⟨g, o + i * 4 + 3, none⟩ = some (.int .i64 (T i)) := by
  obtain ⟨g, o, rfl, hl, h0⟩ := h (i * 4) (by omega)
  obtain ⟨g1, o1, e1, _, h1⟩ := h (i * 4 + 1) (by omega)
  cases e1
  obtain ⟨g2, o2, e2, _, h2⟩ := h (i * 4 + 2) (by omega)
  cases e2
  obtain ⟨g3, o3, e3, _, h3⟩ := h (i * 4 + 3) (by omega)
  cases e3
  rw [zV0] at h0
  rw [zV1] at h1
  rw [zV2] at h2
  rw [zV3] at h3
  exact ⟨g, o, rfl, hl, h0, by rw [Nat.add_assoc]; exact h1, by rw [Nat.add_assoc]; exact h2, by rw [Nat.add_assoc]; exact h3⟩
set_option maxRecDepth 20000 in
set_option maxHeartbeats 8000000 in
theorem drawDistance_any {s : Option Addr} {n c : Nat} {w : World} (h : Hid (Code8 w s n)) : Calls Try.prog 19 #[.slice s n c] w fun e w' => DdPost w e w' := by
  have hst := store_fp
  go_enter Try.func19, Try.ntmps19
  go_wp2_with fail
  refine (open_any (h.out.below (by repeat (first | with_reducible exact Below.refl _ _ | with_reducible refine Below.setCell ?_ (by first | omega | (simp; done) | (simp; omega)) _ | with_reducible refine bDrewN ?_ _ | with_reducible refine Below.drew ?_ | with_reducible refine Below.alloc ?_ (by first | omega | (simp; done) | (simp; omega)) _)))).mono ?_
  rintro e w1 ⟨rfl, R_, b_⟩
  obtain ⟨gp, hgp⟩ : ∃ g, g = w.heap.size := ⟨_, rfl⟩
  obtain ⟨gq, hgq⟩ : ∃ g, g = w.heap.size + 1 := ⟨_, rfl⟩
  obtain ⟨r, hr⟩ : ∃ g, g = w.heap.size + 1 + 1 := ⟨_, rfl⟩
  have HR : Hid (Rd w1 r s n c 0) := by show Rd _ _ _ _ _ _; rw [hr]; simpa using R_
  have HB : Hid (Below w.heap.size w w1) := (show Below w.heap.size w _ from (by repeat (first | with_reducible exact Below.refl _ _ | with_reducible refine Below.setCell ?_ (by first | omega | (simp; done) | (simp; omega)) _ | with_reducible refine bDrewN ?_ _ | with_reducible refine Below.drew ?_ | with_reducible refine Below.alloc ?_ (by first | omega | (simp; done) | (simp; omega)) _))).trans (b_.mono (by first | omega | (simp; done) | (simp; omega)))
  have HP : Hid (Blk w1 gp [.float .f64 0, .float .f64 0]) := by show Blk _ _ _; rw [hgp]; exact ((Blk.new w #[.float .f64 0, .float .f64 0] 28).below (below0 _ _)).below b_
  have HQ : Hid (Blk w1 gq [.float .f64 0, .float .f64 0]) := by
    show Blk _ _ _
    have q := (Blk.new (w.alloc (.cells #[.float .f64 0, .float .f64 0] 28)) #[.float .f64 0, .float .f64 0] 28).below b_
    rw [hgq]; simpa using q
  have zr1 : r < w1.heap.size := HR.out.1
  try rw [show ((w.alloc (.cells #[.float .f64 0, .float .f64 0] 28)).alloc (.cells #[.float .f64 0, .float .f64 0] 28)).heap.size = r by rw [hr]; simp]
  try rw [← hr]
  try rw [← hgq]
  try rw [← hgp]
  have o1 : w.heap.size ≤ gp := by omega
  have o2 : gp < gq := by omega
  have o3 : gq < r := by omega
  clear R_ b_ h hr hgq hgp
  go_upto_region 3 with fail
  obtain ⟨w2, hw2⟩ : ∃ z, z = w1.alloc (.cells #[] 30) := ⟨_, rfl⟩
  rw [← hw2]
  obtain ⟨b, hb⟩ : ∃ g, g = w1.heap.size := ⟨_, rfl⟩
  try rw [← hb]
  have HZ : Hid (ZnS w r s n c gp gq b 0 0 (.slice (some ⟨b, 0, none⟩) 0 0) w2) := by
    have bl : Below w1.heap.size w1 w2 := by rw [hw2]; exact below0 _ _
    refine ⟨HR.out.below bl, HB.out.trans (bl.mono HB.out.size), HP.out.below bl, HQ.out.below bl, ⟨fun _ => 0, fun _ => 0, fun _ => 0, fun _ => 0, ?_, fun j hj => by omega⟩, by omega, by omega, by omega, by omega, by rw [hb]; exact bl.size⟩
    have := World.ownsRow_lit (base := b) (size := 4) (e := 30) w1 #[] 0 (by omega) (by simp [maxLen]) (by simp)
    rw [hw2, hb]
    rw [hb] at this
    simpa [zvL] using this
  clear HR HB HP HQ hw2 hb zr1 o1 o2 o3
  go_wp2_with fail
  refine (below_any 4 HZ.out.1).mono ?_
  rintro e w3 ⟨N, p3, rfl, N0, N1, N2, R_, b_⟩
  replace HZ : Hid (ZnS w r s n c gp gq b p3 0 (.slice (some ⟨b, 0, none⟩) 0 0) w3) := HZ.out.read R_ b_
  obtain ⟨M, hM⟩ : ∃ M : Nat, 1 + N = (M : Int) := ⟨(1 + N).toNat, by omega⟩
  have M1 : 1 ≤ M := by omega
  have M4 : M ≤ 4 := by omega
  clear R_ b_ N0 N1 N2
  go_wp2_with fail
  try rw [hM]
  clear hM
  go_loopw [6, 7] (fun v i wx => ∃ (k j p : Nat), Hid (k + j = M) ∧ i = .int .i64 (j : Int) ∧ Hid (ZnS w r s n c gp gq b p k v wx)) (fun _ i _ => (intOf i).toNat)
  case atStart => exact ⟨0, M, p3, by show _ = _; omega, rfl, HZ⟩
  case round =>
  clear HZ
  obtain ⟨k, j, p4, HJ, rfl, HZ⟩ := hrel
  have kM : k ≤ 4 := by have := HJ.out; omega
  rename World => wa
  by_cases hj : 0 < j
  case pos =>
    obtain ⟨j, rfl⟩ : ∃ j', j = j' + 1 := ⟨j - 1, by omega⟩
    have j4 : j ≤ 4 := by have := HJ.out; omega
    have j1 : (0 : Int) < ((j + 1 : Nat) : Int) := by omega
    have jc : ((j + 1 : Nat) : Int) = (j : Int) + 1 := by omega
    go_wp2_with fail
    refine (zone_any HZ.out.1).mono ?_
    rintro e wb ⟨zc, ze, zq, zt, p5, rfl, hbz, R_, b_⟩
    replace HZ : Hid (ZnS w r s n c gp gq b p5 k u6 wb) := HZ.out.read R_ b_
    clear R_ b_
    go_wp2_with (first | (at_builtin; refine zn_one _ _ (by rfl) (by rfl) (by rfl) (by rfl) HZ.out (by omega) hbz ?_; intro g9 cap9 w9 h9 gr9 gn9))
    have HZ9 : Hid (ZnS w r s n c gp gq b p5 (k + 1) (.slice (some ⟨g9, 0, none⟩) (k + 1) cap9) w9) := h9
    clear h9 gr9 gn9
    go_roundw
    case rel => exact ⟨k + 1, j, p5, by have := HJ.out; show _ = _; omega, by go_num, HZ9⟩
    case measure => first | (simp [intOf]; done) | (simp [intOf]; omega)
  case neg =>
  obtain rfl : j = 0 := by omega
  rw [show ((0 : Nat) : Int) = (0 : Int) from rfl]
  have k1 : 1 ≤ k := by have := HJ.out; omega
  clear HJ hj
  obtain ⟨t, cap, C, E, R, T, e6, -, -, hg⟩ := HZ.out.row
  obtain ⟨g, rfl, -, -⟩ := hg 0 (by omega)
  subst e6
  clear hg
  have ki : (0 : Int) < (k : Int) := by omega
  go_wp2_with fail
  refine (below_any (k : Int) HZ.out.1).mono ?_
  rintro e wb ⟨ix, p5, rfl, ix0, ix1, ix2, R_, b_⟩
  replace HZ : Hid (ZnS w r s n c gp gq b p5 k (.slice (some ⟨g, 0, none⟩) k cap) wb) := HZ.out.read R_ b_
  obtain ⟨iN, rfl⟩ : ∃ iN : Nat, ix = (iN : Int) := ⟨ix.toNat, by omega⟩
  have ik : iN < k := by omega
  have iki : (iN : Int) < (k : Int) := by omega
  clear R_ b_ ix0 ix1 ix2
  obtain ⟨t', cap', C', E', R', T', e6, hrow, hbd, -⟩ := HZ.out.row
  cases e6
  obtain ⟨g', o', e6, gl, d0, d1, d2, d3⟩ := hrow.four ik
  cases e6
  obtain ⟨l0, l1, l2⟩ := hbd iN ik
  obtain ⟨zc, hzc⟩ : ∃ z, C' iN = z := ⟨_, rfl⟩
  obtain ⟨ze, hze⟩ : ∃ z, E' iN = z := ⟨_, rfl⟩
  obtain ⟨zq, hzq⟩ : ∃ z, R' iN = z := ⟨_, rfl⟩
  obtain ⟨zt, hzt⟩ : ∃ z, T' iN = z := ⟨_, rfl⟩
  rw [hzc] at d0 l0
  rw [hze] at d1 l1
  rw [hzq] at d2 l2
  rw [hzt] at d3
  rw [Nat.zero_add] at d0 d1 d2 d3
  clear hzc hze hzq hzt hrow hbd gl
  go_wp2_with fail
  refine (meet_any zc ze zq zt l0 l1 l2 HZ.out.1).mono ?_
  rintro e wc ⟨x, y, z, u, p6, rfl, HL4, R_, b_⟩
  replace HZ : Hid (ZnS w r s n c gp gq b p6 k (.slice (some ⟨g, 0, none⟩) k cap) wc) := HZ.out.read R_ b_
  have HX4 : Hid (x < 18446744073709551616 ∧ y < 18446744073709551616 ∧ z < 18446744073709551616 ∧ u < 18446744073709551616) := HL4
  clear R_ b_ HL4 d0 d1 d2 d3
  have HN0 : g < wc.heap.size := by
    obtain ⟨t', cap', C', E', R', T', e6, -, -, hg⟩ := HZ.out.row
    obtain ⟨g', e7, -, gl⟩ := hg 0 (by omega)
    cases e6
    cases e7
    exact gl
  go_upto_region 8 with fail
  obtain ⟨wd, hwd⟩ : ∃ q, q = (wc.alloc (.cells #[.float .f64 x, .float .f64 y] 28)).alloc (.cells #[.float .f64 z, .float .f64 u] 28) := ⟨_, rfl⟩
  rw [← hwd]
  obtain ⟨gv, hgv⟩ : ∃ q, q = wc.heap.size := ⟨_, rfl⟩
  have HV : Hid (Blk wd gv [.float .f64 x, .float .f64 y]) := by show Blk _ _ _; rw [hwd, hgv]; exact (Blk.new wc #[.float .f64 x, .float .f64 y] _).below (below0 _ _)
  have HA : Hid (Blk wd (gv + 1) [.float .f64 z, .float .f64 u]) := by
    show Blk _ _ _
    have q := Blk.new (wc.alloc (.cells #[.float .f64 x, .float .f64 y] 28)) #[.float .f64 z, .float .f64 u] 28
    rw [hwd, hgv]; simpa using q
  have lgv : b ≤ gv := by rw [hgv]; exact HZ.out.2.2.2.2.2.2.2.2.2
  replace HZ : Hid (ZnS w r s n c gp gq b p6 k (.slice (some ⟨g, 0, none⟩) k cap) wd) := HZ.out.below (by rw [hwd]; exact (by repeat (first | with_reducible exact Below.refl _ _ | with_reducible refine Below.setCell ?_ (by first | omega | (simp; done) | (simp; omega)) _ | with_reducible refine bDrewN ?_ _ | with_reducible refine Below.drew ?_ | with_reducible refine Below.alloc ?_ (by first | omega | (simp; done) | (simp; omega)) _)))
  have HN : Hid (g < gv) := by show _ < _; rw [hgv]; exact HN0
  try rw [← hgv]
  clear hwd hgv HN0
  go_wp2_with fail
  refine (once_any 24 (by omega) (by omega) HZ.out.1).mono ?_
  rintro e we ⟨fl, p7, rfl, R_, b_⟩
  have rlt : r < gv := by have := HZ.out.2.2.2.2.2.2.2.2.1; omega
  replace HZ : Hid (ZnS w r s n c gp gq b p7 k (.slice (some ⟨g, 0, none⟩) k cap) we) := HZ.out.read R_ b_
  replace HV : Hid (Blk we gv [.float .f64 x, .float .f64 y]) := HV.out.beside b_ (by omega)
  replace HA : Hid (Blk we (gv + 1) [.float .f64 z, .float .f64 u]) := HA.out.beside b_ (by omega)
  clear R_ b_
  cases fl
  case false =>
    obtain ⟨t', cap', C', E', R', T', e6, hrow, hbd, -⟩ := HZ.out.row
    cases e6
    have hord := HZ.out.2.2.2.2.2
    have vc0 := HV.out.2.2 0 _ rfl
    have vc1 := HV.out.2.2 1 _ rfl
    have ac0 := HA.out.2.2 0 _ rfl
    have ac1 := HA.out.2.2 1 _ rfl
    have pc0 := HZ.out.2.2.1.2.2 0 _ rfl
    have pc1 := HZ.out.2.2.1.2.2 1 _ rfl
    have pf0 := HZ.out.2.2.1.2.1 0
    have pf1 := HZ.out.2.2.1.2.1 1
    have qc0 := HZ.out.2.2.2.1.2.2 0 _ rfl
    have qc1 := HZ.out.2.2.2.1.2.2 1 _ rfl
    have qf0 := HZ.out.2.2.2.1.2.1 0
    have qf1 := HZ.out.2.2.2.1.2.1 1
    have n1 : gp ≠ gv := by omega
    have n2 : gp ≠ gv + 1 := by omega
    have n3 : gq ≠ gv := by omega
    have n4 : gq ≠ gv + 1 := by omega
    have n5 : gp ≠ gq := by omega
    have n6 : gv ≠ gp := by omega
    have n7 : gv + 1 ≠ gp := by omega
    have n8 : gv ≠ gq := by omega
    have n9 : gv + 1 ≠ gq := by omega
    have n0 : gq ≠ gp := by omega
    have BF := HZ.out.2.1
    have sBF := BF.size
    have hgb : b ≤ g := by
      obtain ⟨t9, cap9, C9, E9, R9, T9, e9, -, -, hg⟩ := HZ.out.row
      obtain ⟨g', e7, gb, gl⟩ := hg 0 (by omega)
      cases e9
      cases e7
      exact gb
    have ng1 : gp ≠ g := by omega
    have ng2 : gq ≠ g := by omega
    have HROW : Hid (RowX we (some ⟨g, 0, none⟩) (k * 4) (zV C' E' R' T')) := hrow
    have HBD : Hid (∀ j, j < k → C' j < 18446744073709551616 ∧ E' j < 18446744073709551616 ∧ R' j < 18446744073709551616) := hbd
    clear hrow hbd HZ HV HA
    go_upto_region 12 with fail
    go_region
    all_goals go_wp2
    all_goals exact bodyPost_ret (v := .tuple #[.slice (some ⟨g, 0, none⟩) k cap, .agg #[.float .f64 x, .float .f64 y], .agg #[.float .f64 z, .float .f64 u]]) (by simp [results, Try.results19, go_sem, pc0, pc1, qc0, qc1, n5, n0]) rfl ⟨_, k, cap, C', E', R', T', x, y, z, u, rfl, by omega, (by repeat (first | exact HROW.out | refine RowX.setB ?_ ng1 | refine RowX.setB ?_ ng2 | refine RowX.drw ?_)), HBD.out, HX4.out, BF.trans (show Below w.heap.size we _ from (by repeat (first | with_reducible exact Below.refl _ _ | with_reducible refine Below.setCell ?_ (by first | omega | (simp; done) | (simp; omega)) _ | with_reducible refine bDrewN ?_ _ | with_reducible refine Below.drew ?_ | with_reducible refine Below.alloc ?_ (by first | omega | (simp; done) | (simp; omega)) _)))⟩
  case true =>
  go_wp2_with fail
  refine (below_any 2 HZ.out.1).mono ?_
  rintro e wf ⟨y2, p8, rfl, y20, y21, y22, R_, b_⟩
  replace HZ : Hid (ZnS w r s n c gp gq b p8 k (.slice (some ⟨g, 0, none⟩) k cap) wf) := HZ.out.read R_ b_
  replace HV : Hid (Blk wf gv [.float .f64 x, .float .f64 y]) := HV.out.beside b_ (by omega)
  replace HA : Hid (Blk wf (gv + 1) [.float .f64 z, .float .f64 u]) := HA.out.beside b_ (by omega)
  obtain ⟨K, hK⟩ : ∃ K : Nat, 8 + y2 = (K : Int) := ⟨(8 + y2).toNat, by omega⟩
  have K10 : K ≤ 10 := by omega
  have K8 : 8 ≤ K := by omega
  clear R_ b_ y20 y21 y22
  go_wp2_with fail
  try rw [hK]
  clear hK
  go_loopw [6] (fun v wx => ∃ (m g6 c6 : Nat), 1 ≤ m ∧ m ≤ K ∧ v = .slice (some ⟨g6, 0, none⟩) m c6 ∧ Hid (g6 ≠ gv ∧ g6 ≠ gv + 1) ∧ Hid (ZnS w r s n c gp gq b p8 m v wx) ∧ Hid (Blk wx gv [.float .f64 x, .float .f64 y]) ∧ Hid (Blk wx (gv + 1) [.float .f64 z, .float .f64 u])) (fun v _ => 20 - lenZ v)
  case atStart => exact ⟨k, g, cap, by omega, by omega, rfl, (by have := HN.out; exact ⟨by omega, by omega⟩), HZ, HV, HA⟩
  case round =>
  clear HZ HV HA
  obtain ⟨m, g6, c6, m1, mK, rfl, HD, HZ, HV, HA⟩ := hrel
  rename World => wg
  by_cases hm : m < K
  case pos =>
    have hmi : (m : Int) < (K : Int) := by omega
    have m0 : (0 : Int) < (m : Int) := by omega
    obtain ⟨t', cap', C', E', R', T', e6, hrow, hbd, -⟩ := HZ.out.row
    cases e6
    obtain ⟨g', o', e6, gl, d0, d1, d2, d3⟩ := hrow.four (show 0 < m by omega)
    cases e6
    have hb3 := hbd 0 (by omega)
    obtain ⟨zc, hzc⟩ : ∃ z, C' 0 = z := ⟨_, rfl⟩
    obtain ⟨ze, hze⟩ : ∃ z, E' 0 = z := ⟨_, rfl⟩
    obtain ⟨zq, hzq⟩ : ∃ z, R' 0 = z := ⟨_, rfl⟩
    obtain ⟨zt, hzt⟩ : ∃ z, T' 0 = z := ⟨_, rfl⟩
    rw [hzc, hze, hzq] at hb3
    rw [hzc] at d0
    rw [hze] at d1
    rw [hzq] at d2
    rw [hzt] at d3
    simp only [Nat.zero_mul, Nat.zero_add] at d0 d1 d2 d3
    clear hzc hze hzq hzt hrow hbd gl
    go_wp2_with (first | (at_builtin; refine zn_one _ _ (by rfl) (by rfl) (by rfl) (by rfl) HZ.out (by omega) hb3 ?_; intro g9 cap9 w9 h9 gr9 gn9))
    have HZ9 : Hid (ZnS w r s n c gp gq b p8 (m + 1) (.slice (some ⟨g9, 0, none⟩) (m + 1) cap9) w9) := h9
    have kv : w9.heap[gv]? = wg.heap[gv]? := gr9.block gv HV.out.1 (fun e => HD.out.1 (by simpa [Value.ownBlock] using e.symm))
    have ka : w9.heap[gv + 1]? = wg.heap[gv + 1]? := gr9.block (gv + 1) HA.out.1 (fun e => HD.out.2 (by simpa [Value.ownBlock] using e.symm))
    have sz9 := gr9.size
    have HV9 : Hid (Blk w9 gv [.float .f64 x, .float .f64 y]) := ⟨Nat.lt_of_lt_of_le HV.out.1 sz9, fun o => (World.frozen?_of_block (a := ⟨gv, o, none⟩) kv).trans (HV.out.2.1 o), fun i u q => (World.cell?_of_block (a := ⟨gv, i, none⟩) kv).trans (HV.out.2.2 i u q)⟩
    have HA9 : Hid (Blk w9 (gv + 1) [.float .f64 z, .float .f64 u]) := ⟨Nat.lt_of_lt_of_le HA.out.1 sz9, fun o => (World.frozen?_of_block (a := ⟨gv + 1, o, none⟩) ka).trans (HA.out.2.1 o), fun i u q => (World.cell?_of_block (a := ⟨gv + 1, i, none⟩) ka).trans (HA.out.2.2 i u q)⟩
    have HD9 : Hid (g9 ≠ gv ∧ g9 ≠ gv + 1) := by
      have z1 := HA.out.1
      have z2 := HV.out.1
      rcases gn9 with e | e
      · have e2 : g6 = g9 := by simpa [Value.ownBlock] using e
        rw [← e2]; exact HD.out
      · exact ⟨by omega, by omega⟩
    clear h9 gr9 kv ka sz9 gn9
    go_roundw
    case rel => exact ⟨m + 1, g9, cap9, by omega, by omega, rfl, HD9, HZ9, HV9, HA9⟩
    case measure => simp [lenZ]; omega
  case neg =>
    have hmi : ¬ (m : Int) < (K : Int) := by omega
    obtain ⟨t', cap', C', E', R', T', e6, hrow, hbd, -⟩ := HZ.out.row
    cases e6
    have hord := HZ.out.2.2.2.2.2
    have vc0 := HV.out.2.2 0 _ rfl
    have vc1 := HV.out.2.2 1 _ rfl
    have ac0 := HA.out.2.2 0 _ rfl
    have ac1 := HA.out.2.2 1 _ rfl
    have pc0 := HZ.out.2.2.1.2.2 0 _ rfl
    have pc1 := HZ.out.2.2.1.2.2 1 _ rfl
    have pf0 := HZ.out.2.2.1.2.1 0
    have pf1 := HZ.out.2.2.1.2.1 1
    have qc0 := HZ.out.2.2.2.1.2.2 0 _ rfl
    have qc1 := HZ.out.2.2.2.1.2.2 1 _ rfl
    have qf0 := HZ.out.2.2.2.1.2.1 0
    have qf1 := HZ.out.2.2.2.1.2.1 1
    have n1 : gp ≠ gv := by omega
    have n2 : gp ≠ gv + 1 := by omega
    have n3 : gq ≠ gv := by omega
    have n4 : gq ≠ gv + 1 := by omega
    have n5 : gp ≠ gq := by omega
    have n6 : gv ≠ gp := by omega
    have n7 : gv + 1 ≠ gp := by omega
    have n8 : gv ≠ gq := by omega
    have n9 : gv + 1 ≠ gq := by omega
    have n0 : gq ≠ gp := by omega
    have BF := HZ.out.2.1
    have sBF := BF.size
    have hgb : b ≤ g6 := by
      obtain ⟨t9, cap9, C9, E9, R9, T9, e9, -, -, hg⟩ := HZ.out.row
      obtain ⟨g', e7, gb, gl⟩ := hg 0 (by omega)
      cases e9
      cases e7
      exact gb
    have ng1 : gp ≠ g6 := by omega
    have ng2 : gq ≠ g6 := by omega
    have HROW : Hid (RowX wg (some ⟨g6, 0, none⟩) (m * 4) (zV C' E' R' T')) := hrow
    have HBD : Hid (∀ j, j < m → C' j < 18446744073709551616 ∧ E' j < 18446744073709551616 ∧ R' j < 18446744073709551616) := hbd
    clear hrow hbd HZ HV HA
    go_upto_region 12 with fail
    go_region
    all_goals go_wp2
    all_goals exact bodyPost_ret (v := .tuple #[.slice (some ⟨g6, 0, none⟩) m c6, .agg #[.float .f64 x, .float .f64 y], .agg #[.float .f64 z, .float .f64 u]]) (by simp [results, Try.results19, go_sem, pc0, pc1, qc0, qc1, n5, n0]) rfl ⟨_, m, c6, C', E', R', T', x, y, z, u, rfl, by omega, (by repeat (first | exact HROW.out | refine RowX.setB ?_ ng1 | refine RowX.setB ?_ ng2 | refine RowX.drw ?_)), HBD.out, HX4.out, BF.trans (show Below w.heap.size wg _ from (by repeat (first | with_reducible exact Below.refl _ _ | with_reducible refine Below.setCell ?_ (by first | omega | (simp; done) | (simp; omega)) _ | with_reducible refine bDrewN ?_ _ | with_reducible refine Below.drew ?_ | with_reducible refine Below.alloc ?_ (by first | omega | (simp; done) | (simp; omega)) _)))⟩
end Go.Proofs.Ytedkhhocbnldjaa
