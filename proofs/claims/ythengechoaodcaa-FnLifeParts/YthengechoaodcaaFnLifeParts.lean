/-
What is proved: FnLifeParts: of two lists of swings that are drawn from any two codes, on the one's curve, the life of both behind one another is the sum of the lives where all three are told, and no told life is below 0; no condition.
-/
import Derived.Test.YthengechoaodcaaLpM
import Derived.Test.YthengechoaodcaaLpD
import Derived.Test.YthengechoaodcaaLifeS
import Derived.Test.YthengechoaodcaaLifeI
import Derived.Test.YthengechoaodcaaLjSw
import Derived.Test.YthengechoaodcaaOpen8
import Derived.Deep.DeepCutAuto
import Derived.Deep.QuietTactic
namespace Go.Proofs.Ythengechoaodcaa
set_option maxRecDepth 40000
open Go.ChangeShapes Go.WideShapes Go.ChangeAt Go.RowKit
set_option linter.unusedVariables false
set_option linter.unusedSimpArgs false

theorem run_append_none_any {P : Program} {w : World} (base : Nat) (t ty e : TypeId) (i : TypeInfo) (size : Nat) (ht : P.underlying t = some (.slice e)) (hi : P.info? e = some i)
    (v : Value) (n c : Nat) (xs : List Value) (hown : w.ownsRow base e size v n xs) :
    (Builtin.append_ #[t, t] ty #[v, .slice none 0 c]).run P w = .ok v w := by
  rcases hown.2 with ⟨rfl, rfl⟩ | ⟨g, cap, cur, rfl, _, _, hnc, _⟩
  · simp [Builtin.append_, run_underlying ht, sizeOf, typeInfo, hi, Builtin.lenOf, Builtin.firstCells]
  · simp [Builtin.append_, run_underlying ht, sizeOf, typeInfo, hi, Builtin.lenOf, Builtin.firstCells, hnc, storeCells]
theorem join_any {ops : Array Oper} {rest : List Oper} {o : Oper} {a : Act} {Q : Exit → Act → World → Prop} {W : World} (base : Nat) (v : Value) (k : Nat) (U : Nat → Int) (s z : Operand) (sx : Option Addr) (n c : Nat) (X : Nat → Int) (hgd : o.guard = none)
    (ho : o.op = .call { callee := .builtin .append, args := #[s, z], argTypes := #[23, 23] }) (hs : a.eval s = v) (hx : a.eval z = .slice sx n c) (hown : Lst base 36 2 W v k U) (hk : k ≤ 100000) (hn : n ≤ 100000) (hb : base ≤ W.heap.size) (R : RowI W sx (n * 2) X)
    (h : ∀ v' w', Lst base 36 2 w' v' (k + n) (catU U (k * 2) X) → Below base W w' → wpList Try.prog ops Q rest (a.put o.dst v') w') :
    wpList Try.prog ops Q (o :: rest) a W := by
  cases sx with
  | some ad => exact join_Swing base v k U s z ad n c X hgd ho hs hx hown hk hn hb R h
  | none =>
    have e : n = 0 := by
      rcases Nat.eq_zero_or_pos n with q | q
      · exact q
      · obtain ⟨b, o, e, _⟩ := R 0 (by omega)
        cases e
    subst e
    obtain ⟨i0, hi, hz0, hz1, hz2⟩ := info_parts info_Swing
    refine wpList_plain hgd fun K hK => ?_
    have hrun := run_append_none_any (P := Try.prog) (w := W) base 23 o.type 36 i0 2 Try.underlying23 hi v k c _ hown
    unfold Oper.wp
    simp [execOp, ho, resolve, invoke, builtin, hs, hx, hrun, Result.andThen]
    refine hK _ _ (h v W ?_ (Below.refl _ _))
    show World.ownsRow _ _ _ _ _ _ _
    rw [vals_cat, show vals X (0 * 2) = [] from rfl, List.append_nil]
    exact hown
theorem lst_zeroS {H : Nat} {w : World} {v : Value} {m : Nat} {U : Nat → Int} (h : Lst H 36 2 w v (0 + m) (catU (fun _ => 0) (0 * 2) U)) : Lst H 36 2 w v m U := by
  have e : catU (fun _ => 0) (0 * 2) U = U := by funext j; unfold catU; rw [if_neg (by omega)]; rfl
  rw [Nat.zero_add, e] at h
  exact h
theorem rowI_low {w w' : World} {s : Option Addr} {n B : Nat} {V : Nat → Int} (h : RowI w s n V) (hb : Below B w w') (hg : 0 < n → ∀ g o, s = some ⟨g, o, none⟩ → g < B) : RowI w' s n V := fun j hj => by
  obtain ⟨b, o, e, hl, hc⟩ := h j hj
  exact ⟨b, o, e, Nat.lt_of_lt_of_le hl hb.size, (hb.cell (p := ⟨b, o + j, none⟩) (hg (by omega) b o e)).trans hc⟩
theorem rowI_lt {w : World} {s : Option Addr} {n : Nat} {V : Nat → Int} (h : RowI w s n V) : 0 < n → ∀ g o, s = some ⟨g, o, none⟩ → g < w.heap.size := fun hn g o e => by
  obtain ⟨b, o', e', hl, _⟩ := h 0 hn
  rw [e] at e'; cases e'; exact hl
theorem neq_selfB (b : Bool) : (b != b) = false := by cases b <;> rfl
theorem cat_lo (U X : Nat → Int) (m : Nat) : ∀ j, j < m * 2 → catU U (m * 2) X j = U j := fun j hj => by unfold catU; rw [if_pos hj]
theorem cat_hi (U X : Nat → Int) (m : Nat) : ∀ j, catU U (m * 2) X (m * 2 + j) = X j := fun j => by unfold catU; rw [if_neg (by omega), show m * 2 + j - m * 2 = j by omega]
set_option maxHeartbeats 400000 in
theorem lifeParts_far1 (w : World) (s : Option Addr) (n c : Nat) (s2 : Option Addr) (n2 c2 : Nat) (h : (1048576 : Int) < n) :
    Calls Try.prog 5 #[.slice s n c, .slice s2 n2 c2] w fun e w' => e = .returned (.bool true) ∧ Below w.heap.size w w' := by
  go_enter Try.func5, Try.ntmps5
  go_wp2_with fail
  refine (big_yes _ _ _ _ h).mono ?_
  rintro e w1 ⟨rfl, rfl⟩
  go_wp2
  go_ret
  exact ⟨rfl, Below.refl _ _⟩
set_option maxHeartbeats 400000 in
theorem lifeParts_far2 (w : World) (s : Option Addr) (n c : Nat) (s2 : Option Addr) (n2 c2 : Nat) (h0 : (n : Int) ≤ 1048576) (h : (1048576 : Int) < n2) :
    Calls Try.prog 5 #[.slice s n c, .slice s2 n2 c2] w fun e w' => e = .returned (.bool true) ∧ Below w.heap.size w w' := by
  go_enter Try.func5, Try.ntmps5
  go_wp2_with fail
  refine (big_no _ _ _ _ h0).mono ?_
  rintro e w1 ⟨rfl, rfl⟩
  go_wp2_with fail
  refine (big_yes _ _ _ _ h).mono ?_
  rintro e w1 ⟨rfl, rfl⟩
  go_wp2
  go_ret
  exact ⟨rfl, Below.refl _ _⟩
set_option maxRecDepth 20000 in
set_option maxHeartbeats 8000000 in
theorem lifeParts_near (w : World) (s : Option Addr) (n c : Nat) (s2 : Option Addr) (n2 c2 : Nat) (h0 : (n : Int) ≤ 1048576) (h : (n2 : Int) ≤ 1048576) (HC : Hid (Code8 w s n)) (HC2 : Hid (Code8 w s2 n2)) :
    Calls Try.prog 5 #[.slice s n c, .slice s2 n2 c2] w fun e w' => e = .returned (.bool true) ∧ Below w.heap.size w w' := by
  go_enter Try.func5, Try.ntmps5
  go_wp2_with fail
  refine (big_no _ _ _ _ h0).mono ?_
  rintro e w1 ⟨rfl, rfl⟩
  go_wp2_with fail
  refine (big_no _ _ _ _ h).mono ?_
  rintro e w1 ⟨rfl, rfl⟩
  go_wp2_with fail
  refine (drawLife_any HC).mono ?_
  rintro e w2 hL
  unfold LifPost at hL
  obtain ⟨sa, ma, ca, U, st, V2, rfl, hma, RA, RC, B2⟩ := hL
  have HA : Hid (RowI w2 sa (ma * 2) U) := RA
  have HV : Hid (RowI w2 st (4 * 2) V2) := RC
  have HB : Hid (Below w1.heap.size w1 w2) := B2
  replace HC2 : Hid (Code8 w2 s2 n2) := HC2.out.below B2
  clear RA RC B2 HC
  go_wp2_with fail
  refine (drawLife_any HC2).mono ?_
  rintro e w3 hL
  unfold LifPost at hL
  obtain ⟨sb, mb, cb, X, st2, V3, rfl, hmb, RB, -, B3⟩ := hL
  have HX : Hid (RowI w3 sb (mb * 2) X) := RB
  replace HA : Hid (RowI w3 sa (ma * 2) U) := HA.out.below B3
  replace HV : Hid (RowI w3 st (4 * 2) V2) := HV.out.below B3
  replace HB : Hid (Below w1.heap.size w1 w3) := HB.out.trans (B3.mono HB.out.size)
  clear RB B3 HC2
  have ML : Hid (Lst w3.heap.size 36 2 (w3.alloc (.cells #[] 36)) (.slice (some ⟨w3.heap.size, 0, none⟩) 0 0) 0 (fun _ => 0)) := Lst.lit w3 _ _ 36 2 _ (Nat.le_refl _)
  have bl : Below w3.heap.size w3 (w3.alloc (.cells #[] 36)) := below0 _ _
  have zl : w3.heap.size ≤ (w3.alloc (.cells #[] 36)).heap.size := bl.size
  go_upto_region 6 with (first
    | (at_builtin; refine join_any w3.heap.size _ 0 (fun _ => 0) (.tmp 40) (.tmp 41) sa ma ca U (by rfl) (by rfl) (by rfl) (by rfl) ML.out (by omega) (by omega) zl (HA.out.below bl) ?_; intro v4 w4 l4 b4; have M4 : Hid (Lst w3.heap.size 36 2 w4 v4 ma U) := lst_zeroS l4; have b34 : Below w3.heap.size w3 w4 := bl.trans b4; have z4 : w3.heap.size ≤ w4.heap.size := b34.size)
    | (at_builtin; refine join_any w3.heap.size v4 ma U (.tmp 42) (.tmp 43) sb mb cb X (by rfl) (by rfl) (by rfl) (by rfl) M4.out (by omega) (by omega) z4 (HX.out.below b34) ?_; intro v5 w5 l5 b5; have b35 : Below w3.heap.size w3 w5 := b34.trans b5))
  obtain ⟨su, cu, eu, OU⟩ := l5.own
  subst eu
  have HU : Hid (RowI w5 su ((ma + mb) * 2) (catU U (ma * 2) X)) := OU.row
  replace HA : Hid (RowI w5 sa (ma * 2) U) := HA.out.below b35
  replace HX : Hid (RowI w5 sb (mb * 2) X) := HX.out.below b35
  replace HV : Hid (RowI w5 st (4 * 2) V2) := HV.out.below b35
  replace HB : Hid (Below w1.heap.size w1 w5) := HB.out.trans (b35.mono HB.out.size)
  clear ML bl zl l4 b4 M4 b34 z4 l5 b5 b35 OU
  obtain ⟨xa, ya, oka, La⟩ := life_some ma 4 U V2
  obtain ⟨xb, yb, okb, Lb⟩ := life_some mb 4 X V2
  obtain ⟨xc, yc, okc, Lc⟩ := life_some (ma + mb) 4 (catU U (ma * 2) X) V2
  have Sa : Hid (∀ W, RowI W sa (ma * 2) U → RowI W st (4 * 2) V2 → Calls Try.prog 24 #[.slice sa ma ca, .slice st 4 4] W fun e w' => e = .returned (.tuple #[.agg #[.int .i64 xa, .int .i64 ya], .bool oka]) ∧ Below W.heap.size W w') := fun W q1 q2 => (specLife_any sa st ma ca 4 4 U V2 W (by omega) q1 q2).mono (by
    rintro e w' ⟨⟨p, q, r, hp, he⟩, hb⟩
    obtain ⟨e1, e2, e3⟩ := hp.one La
    rw [e1, e2, e3] at he
    exact ⟨he, hb⟩)
  have Ia : Hid (∀ W, RowI W sa (ma * 2) U → RowI W st (4 * 2) V2 → Calls Try.prog 25 #[.slice sa ma ca, .slice st 4 4] W fun e w' => e = .returned (.tuple #[.agg #[.int .i64 xa, .int .i64 ya], .bool oka]) ∧ Below W.heap.size W w') := fun W q1 q2 => (implLife_any sa st ma ca 4 4 U V2 W (by omega) q1 q2).mono (by
    rintro e w' ⟨⟨p, q, r, hp, he⟩, hb⟩
    obtain ⟨e1, e2, e3⟩ := hp.one La
    rw [e1, e2, e3] at he
    exact ⟨he, hb⟩)
  have Sb : Hid (∀ W, RowI W sb (mb * 2) X → RowI W st (4 * 2) V2 → Calls Try.prog 24 #[.slice sb mb cb, .slice st 4 4] W fun e w' => e = .returned (.tuple #[.agg #[.int .i64 xb, .int .i64 yb], .bool okb]) ∧ Below W.heap.size W w') := fun W q1 q2 => (specLife_any sb st mb cb 4 4 X V2 W (by omega) q1 q2).mono (by
    rintro e w' ⟨⟨p, q, r, hp, he⟩, hb⟩
    obtain ⟨e1, e2, e3⟩ := hp.one Lb
    rw [e1, e2, e3] at he
    exact ⟨he, hb⟩)
  have Ib : Hid (∀ W, RowI W sb (mb * 2) X → RowI W st (4 * 2) V2 → Calls Try.prog 25 #[.slice sb mb cb, .slice st 4 4] W fun e w' => e = .returned (.tuple #[.agg #[.int .i64 xb, .int .i64 yb], .bool okb]) ∧ Below W.heap.size W w') := fun W q1 q2 => (implLife_any sb st mb cb 4 4 X V2 W (by omega) q1 q2).mono (by
    rintro e w' ⟨⟨p, q, r, hp, he⟩, hb⟩
    obtain ⟨e1, e2, e3⟩ := hp.one Lb
    rw [e1, e2, e3] at he
    exact ⟨he, hb⟩)
  have Sc : Hid (∀ W, RowI W su ((ma + mb) * 2) (catU U (ma * 2) X) → RowI W st (4 * 2) V2 → Calls Try.prog 24 #[.slice su (ma + mb) cu, .slice st 4 4] W fun e w' => e = .returned (.tuple #[.agg #[.int .i64 xc, .int .i64 yc], .bool okc]) ∧ Below W.heap.size W w') := fun W q1 q2 => (specLife_any su st (ma + mb) cu 4 4 (catU U (ma * 2) X) V2 W (by omega) q1 q2).mono (by
    rintro e w' ⟨⟨p, q, r, hp, he⟩, hb⟩
    obtain ⟨e1, e2, e3⟩ := hp.one Lc
    rw [e1, e2, e3] at he
    exact ⟨he, hb⟩)
  have Ic : Hid (∀ W, RowI W su ((ma + mb) * 2) (catU U (ma * 2) X) → RowI W st (4 * 2) V2 → Calls Try.prog 25 #[.slice su (ma + mb) cu, .slice st 4 4] W fun e w' => e = .returned (.tuple #[.agg #[.int .i64 xc, .int .i64 yc], .bool okc]) ∧ Below W.heap.size W w') := fun W q1 q2 => (implLife_any su st (ma + mb) cu 4 4 (catU U (ma * 2) X) V2 W (by omega) q1 q2).mono (by
    rintro e w' ⟨⟨p, q, r, hp, he⟩, hb⟩
    obtain ⟨e1, e2, e3⟩ := hp.one Lc
    rw [e1, e2, e3] at he
    exact ⟨he, hb⟩)
  have HLW : Hid (oka = true → okb = true → okc = true → (opOk xa ya xb yb (xa * yb + xb * ya) (ya * yb) = true ∧ opNum xa ya xb yb (xa * yb + xb * ya) (ya * yb) = xc ∧ opDen xa ya xb yb (xa * yb + xb * ya) (ya * yb) = yc) ∧ (0 ≤ xa ∧ 0 ≤ xb) ∧ (xa ≤ 1000000000 ∧ xb ≤ 1000000000 ∧ 0 ≤ ya ∧ ya ≤ 1000000000 ∧ 0 ≤ yb ∧ yb ≤ 1000000000)) := fun e1 e2 e3 => by
    rcases La with ⟨_, la, _⟩ | ⟨_, _, _, z⟩
    · rcases Lb with ⟨_, lb, _⟩ | ⟨_, _, _, z⟩
      · rcases Lc with ⟨_, lc, _⟩ | ⟨_, _, _, z⟩
        · have h1 := la.bd
          have h2 := lb.bd
          exact ⟨life_parts (cat_lo U X ma) (cat_hi U X ma) la lb lc, ⟨(life_right la).2, (life_right lb).2⟩, by omega⟩
        · rw [e3] at z; cases z
      · rw [e2] at z; cases z
    · rw [e1] at z; cases z
  have na : (oka != oka) = false := neq_selfB _
  have nb : (okb != okb) = false := neq_selfB _
  have nc : (okc != okc) = false := neq_selfB _
  clear La Lb Lc
  go_wp2_with fail
  refine (Sa.out _ HA.out HV.out).mono ?_
  rintro e wv1 ⟨rfl, h_⟩
  replace HA : Hid (RowI wv1 sa (ma * 2) U) := HA.out.below h_
  replace HX : Hid (RowI wv1 sb (mb * 2) X) := HX.out.below h_
  replace HU : Hid (RowI wv1 su ((ma + mb) * 2) (catU U (ma * 2) X)) := HU.out.below h_
  replace HV : Hid (RowI wv1 st (4 * 2) V2) := HV.out.below h_
  replace HB : Hid (Below w1.heap.size w1 wv1) := HB.out.trans (h_.mono HB.out.size)
  clear h_
  go_upto_region 7 with fail
  obtain ⟨wv2, hw_⟩ : ∃ x_, x_ = wv1.alloc (.cells #[.int .i64 xa, .int .i64 ya] 41) := ⟨_, rfl⟩
  rw [← hw_]
  have Hsa : Hid (Blk wv2 wv1.heap.size [.int .i64 xa, .int .i64 ya]) := by show Blk _ _ _; rw [hw_]; exact Blk.new wv1 #[.int .i64 xa, .int .i64 ya] _
  have bl_ : Below wv1.heap.size wv1 wv2 := by rw [hw_]; exact below0 _ _
  clear hw_
  replace HA : Hid (RowI wv2 sa (ma * 2) U) := HA.out.below bl_
  replace HX : Hid (RowI wv2 sb (mb * 2) X) := HX.out.below bl_
  replace HU : Hid (RowI wv2 su ((ma + mb) * 2) (catU U (ma * 2) X)) := HU.out.below bl_
  replace HV : Hid (RowI wv2 st (4 * 2) V2) := HV.out.below bl_
  replace HB : Hid (Below w1.heap.size w1 wv2) := HB.out.trans (bl_.mono HB.out.size)
  obtain ⟨gsa, hg_⟩ : ∃ g, g = wv1.heap.size := ⟨_, rfl⟩
  rw [← hg_] at Hsa ⊢
  clear hg_ bl_
  clear Hsa
  go_wp2_with fail
  refine (Sb.out _ HX.out HV.out).mono ?_
  rintro e wv3 ⟨rfl, h_⟩
  replace HA : Hid (RowI wv3 sa (ma * 2) U) := HA.out.below h_
  replace HX : Hid (RowI wv3 sb (mb * 2) X) := HX.out.below h_
  replace HU : Hid (RowI wv3 su ((ma + mb) * 2) (catU U (ma * 2) X)) := HU.out.below h_
  replace HV : Hid (RowI wv3 st (4 * 2) V2) := HV.out.below h_
  replace HB : Hid (Below w1.heap.size w1 wv3) := HB.out.trans (h_.mono HB.out.size)
  clear h_
  go_upto_region 8 with fail
  obtain ⟨wv4, hw_⟩ : ∃ x_, x_ = wv3.alloc (.cells #[.int .i64 xb, .int .i64 yb] 41) := ⟨_, rfl⟩
  rw [← hw_]
  have Hsb : Hid (Blk wv4 wv3.heap.size [.int .i64 xb, .int .i64 yb]) := by show Blk _ _ _; rw [hw_]; exact Blk.new wv3 #[.int .i64 xb, .int .i64 yb] _
  have bl_ : Below wv3.heap.size wv3 wv4 := by rw [hw_]; exact below0 _ _
  clear hw_
  replace HA : Hid (RowI wv4 sa (ma * 2) U) := HA.out.below bl_
  replace HX : Hid (RowI wv4 sb (mb * 2) X) := HX.out.below bl_
  replace HU : Hid (RowI wv4 su ((ma + mb) * 2) (catU U (ma * 2) X)) := HU.out.below bl_
  replace HV : Hid (RowI wv4 st (4 * 2) V2) := HV.out.below bl_
  replace HB : Hid (Below w1.heap.size w1 wv4) := HB.out.trans (bl_.mono HB.out.size)
  obtain ⟨gsb, hg_⟩ : ∃ g, g = wv3.heap.size := ⟨_, rfl⟩
  rw [← hg_] at Hsb ⊢
  clear hg_ bl_
  clear Hsb
  go_wp2_with fail
  refine (Sc.out _ HU.out HV.out).mono ?_
  rintro e wv5 ⟨rfl, h_⟩
  replace HA : Hid (RowI wv5 sa (ma * 2) U) := HA.out.below h_
  replace HX : Hid (RowI wv5 sb (mb * 2) X) := HX.out.below h_
  replace HU : Hid (RowI wv5 su ((ma + mb) * 2) (catU U (ma * 2) X)) := HU.out.below h_
  replace HV : Hid (RowI wv5 st (4 * 2) V2) := HV.out.below h_
  replace HB : Hid (Below w1.heap.size w1 wv5) := HB.out.trans (h_.mono HB.out.size)
  clear h_
  go_upto_region 9 with fail
  obtain ⟨wv6, hw_⟩ : ∃ x_, x_ = wv5.alloc (.cells #[.int .i64 xc, .int .i64 yc] 41) := ⟨_, rfl⟩
  rw [← hw_]
  have Hsc : Hid (Blk wv6 wv5.heap.size [.int .i64 xc, .int .i64 yc]) := by show Blk _ _ _; rw [hw_]; exact Blk.new wv5 #[.int .i64 xc, .int .i64 yc] _
  have bl_ : Below wv5.heap.size wv5 wv6 := by rw [hw_]; exact below0 _ _
  clear hw_
  replace HA : Hid (RowI wv6 sa (ma * 2) U) := HA.out.below bl_
  replace HX : Hid (RowI wv6 sb (mb * 2) X) := HX.out.below bl_
  replace HU : Hid (RowI wv6 su ((ma + mb) * 2) (catU U (ma * 2) X)) := HU.out.below bl_
  replace HV : Hid (RowI wv6 st (4 * 2) V2) := HV.out.below bl_
  replace HB : Hid (Below w1.heap.size w1 wv6) := HB.out.trans (bl_.mono HB.out.size)
  obtain ⟨gsc, hg_⟩ : ∃ g, g = wv5.heap.size := ⟨_, rfl⟩
  rw [← hg_] at Hsc ⊢
  clear hg_ bl_
  clear Hsc
  go_wp2_with fail
  refine (Ia.out _ HA.out HV.out).mono ?_
  rintro e wv7 ⟨rfl, h_⟩
  replace HA : Hid (RowI wv7 sa (ma * 2) U) := HA.out.below h_
  replace HX : Hid (RowI wv7 sb (mb * 2) X) := HX.out.below h_
  replace HU : Hid (RowI wv7 su ((ma + mb) * 2) (catU U (ma * 2) X)) := HU.out.below h_
  replace HV : Hid (RowI wv7 st (4 * 2) V2) := HV.out.below h_
  replace HB : Hid (Below w1.heap.size w1 wv7) := HB.out.trans (h_.mono HB.out.size)
  clear h_
  go_upto_region 10 with fail
  obtain ⟨wv8, hw_⟩ : ∃ x_, x_ = wv7.alloc (.cells #[.int .i64 xa, .int .i64 ya] 41) := ⟨_, rfl⟩
  rw [← hw_]
  have Hia : Hid (Blk wv8 wv7.heap.size [.int .i64 xa, .int .i64 ya]) := by show Blk _ _ _; rw [hw_]; exact Blk.new wv7 #[.int .i64 xa, .int .i64 ya] _
  have bl_ : Below wv7.heap.size wv7 wv8 := by rw [hw_]; exact below0 _ _
  clear hw_
  replace HA : Hid (RowI wv8 sa (ma * 2) U) := HA.out.below bl_
  replace HX : Hid (RowI wv8 sb (mb * 2) X) := HX.out.below bl_
  replace HU : Hid (RowI wv8 su ((ma + mb) * 2) (catU U (ma * 2) X)) := HU.out.below bl_
  replace HV : Hid (RowI wv8 st (4 * 2) V2) := HV.out.below bl_
  replace HB : Hid (Below w1.heap.size w1 wv8) := HB.out.trans (bl_.mono HB.out.size)
  obtain ⟨gia, hg_⟩ : ∃ g, g = wv7.heap.size := ⟨_, rfl⟩
  rw [← hg_] at Hia ⊢
  clear hg_ bl_
  go_wp2_with fail
  refine (Ib.out _ HX.out HV.out).mono ?_
  rintro e wv9 ⟨rfl, h_⟩
  replace HA : Hid (RowI wv9 sa (ma * 2) U) := HA.out.below h_
  replace HX : Hid (RowI wv9 sb (mb * 2) X) := HX.out.below h_
  replace HU : Hid (RowI wv9 su ((ma + mb) * 2) (catU U (ma * 2) X)) := HU.out.below h_
  replace HV : Hid (RowI wv9 st (4 * 2) V2) := HV.out.below h_
  replace Hia : Hid (Blk wv9 gia [.int .i64 xa, .int .i64 ya]) := Hia.out.below h_
  replace HB : Hid (Below w1.heap.size w1 wv9) := HB.out.trans (h_.mono HB.out.size)
  clear h_
  go_upto_region 11 with fail
  obtain ⟨wv10, hw_⟩ : ∃ x_, x_ = wv9.alloc (.cells #[.int .i64 xb, .int .i64 yb] 41) := ⟨_, rfl⟩
  rw [← hw_]
  have Hib : Hid (Blk wv10 wv9.heap.size [.int .i64 xb, .int .i64 yb]) := by show Blk _ _ _; rw [hw_]; exact Blk.new wv9 #[.int .i64 xb, .int .i64 yb] _
  have bl_ : Below wv9.heap.size wv9 wv10 := by rw [hw_]; exact below0 _ _
  clear hw_
  replace HA : Hid (RowI wv10 sa (ma * 2) U) := HA.out.below bl_
  replace HX : Hid (RowI wv10 sb (mb * 2) X) := HX.out.below bl_
  replace HU : Hid (RowI wv10 su ((ma + mb) * 2) (catU U (ma * 2) X)) := HU.out.below bl_
  replace HV : Hid (RowI wv10 st (4 * 2) V2) := HV.out.below bl_
  replace Hia : Hid (Blk wv10 gia [.int .i64 xa, .int .i64 ya]) := Hia.out.below bl_
  replace HB : Hid (Below w1.heap.size w1 wv10) := HB.out.trans (bl_.mono HB.out.size)
  obtain ⟨gib, hg_⟩ : ∃ g, g = wv9.heap.size := ⟨_, rfl⟩
  rw [← hg_] at Hib ⊢
  clear hg_ bl_
  go_wp2_with fail
  refine (Ic.out _ HU.out HV.out).mono ?_
  rintro e wv11 ⟨rfl, h_⟩
  replace HA : Hid (RowI wv11 sa (ma * 2) U) := HA.out.below h_
  replace HX : Hid (RowI wv11 sb (mb * 2) X) := HX.out.below h_
  replace HU : Hid (RowI wv11 su ((ma + mb) * 2) (catU U (ma * 2) X)) := HU.out.below h_
  replace HV : Hid (RowI wv11 st (4 * 2) V2) := HV.out.below h_
  replace Hia : Hid (Blk wv11 gia [.int .i64 xa, .int .i64 ya]) := Hia.out.below h_
  replace Hib : Hid (Blk wv11 gib [.int .i64 xb, .int .i64 yb]) := Hib.out.below h_
  replace HB : Hid (Below w1.heap.size w1 wv11) := HB.out.trans (h_.mono HB.out.size)
  clear h_
  go_upto_region 12 with fail
  obtain ⟨wv12, hw_⟩ : ∃ x_, x_ = wv11.alloc (.cells #[.int .i64 xc, .int .i64 yc] 41) := ⟨_, rfl⟩
  rw [← hw_]
  have Hic : Hid (Blk wv12 wv11.heap.size [.int .i64 xc, .int .i64 yc]) := by show Blk _ _ _; rw [hw_]; exact Blk.new wv11 #[.int .i64 xc, .int .i64 yc] _
  have bl_ : Below wv11.heap.size wv11 wv12 := by rw [hw_]; exact below0 _ _
  clear hw_
  replace HA : Hid (RowI wv12 sa (ma * 2) U) := HA.out.below bl_
  replace HX : Hid (RowI wv12 sb (mb * 2) X) := HX.out.below bl_
  replace HU : Hid (RowI wv12 su ((ma + mb) * 2) (catU U (ma * 2) X)) := HU.out.below bl_
  replace HV : Hid (RowI wv12 st (4 * 2) V2) := HV.out.below bl_
  replace Hia : Hid (Blk wv12 gia [.int .i64 xa, .int .i64 ya]) := Hia.out.below bl_
  replace Hib : Hid (Blk wv12 gib [.int .i64 xb, .int .i64 yb]) := Hib.out.below bl_
  replace HB : Hid (Below w1.heap.size w1 wv12) := HB.out.trans (bl_.mono HB.out.size)
  obtain ⟨gic, hg_⟩ : ∃ g, g = wv11.heap.size := ⟨_, rfl⟩
  rw [← hg_] at Hic ⊢
  clear hg_ bl_
  cases oka
  case false =>
    have BF := HB.out
    have sBF := BF.size
    go_wp2
    go_ret
    exact ⟨rfl, (by repeat (first | with_reducible exact Below.refl _ _ | with_reducible exact BF | with_reducible refine Below.setCell ?_ (by first | omega | (simp; done) | (simp; omega)) _ | with_reducible refine bDrewN ?_ _ | with_reducible refine Below.drew ?_ | with_reducible refine Below.alloc ?_ (by first | omega | (simp; done) | (simp; omega)) _))⟩
  case true =>
    cases okb
    case false =>
      have BF := HB.out
      have sBF := BF.size
      go_wp2
      go_ret
      exact ⟨rfl, (by repeat (first | with_reducible exact Below.refl _ _ | with_reducible exact BF | with_reducible refine Below.setCell ?_ (by first | omega | (simp; done) | (simp; omega)) _ | with_reducible refine bDrewN ?_ _ | with_reducible refine Below.drew ?_ | with_reducible refine Below.alloc ?_ (by first | omega | (simp; done) | (simp; omega)) _))⟩
    case true =>
      cases okc
      case false =>
        have BF := HB.out
        have sBF := BF.size
        go_wp2
        go_ret
        exact ⟨rfl, (by repeat (first | with_reducible exact Below.refl _ _ | with_reducible exact BF | with_reducible refine Below.setCell ?_ (by first | omega | (simp; done) | (simp; omega)) _ | with_reducible refine bDrewN ?_ _ | with_reducible refine Below.drew ?_ | with_reducible refine Below.alloc ?_ (by first | omega | (simp; done) | (simp; omega)) _))⟩
      case true =>
        obtain ⟨⟨g1, g2, g3⟩, ⟨p1, p2⟩, q1, q2, q3, q4, q5, q6⟩ := HLW.out rfl rfl rfl
        have HAF : Hid (∀ W, Calls Try.prog 26 #[.agg #[.int .i64 xa, .int .i64 ya], .agg #[.int .i64 xb, .int .i64 yb]] W fun e w' => e = .returned (.tuple #[.agg #[.int .i64 xc, .int .i64 yc], .bool true]) ∧ Below W.heap.size W w') := fun W => by
          have := implAddFrac_any xa ya xb yb W (by omega) (by omega) (by omega) (by omega) (by omega) (by omega) (by omega) (by omega)
          rw [g1, g2, g3] at this
          exact this
        clear g1 g2 g3 q1 q2 q3 q4 q5 q6 HLW
        obtain ⟨z_ia, f_ia, c_ia⟩ := Hia.out
        have iac0 : wv12.cell? ⟨gia, 0, none⟩ = some (.int .i64 xa) := c_ia 0 _ rfl
        have iac1 : wv12.cell? ⟨gia, 1, none⟩ = some (.int .i64 ya) := c_ia 1 _ rfl
        clear f_ia c_ia
        obtain ⟨z_ib, f_ib, c_ib⟩ := Hib.out
        have ibc0 : wv12.cell? ⟨gib, 0, none⟩ = some (.int .i64 xb) := c_ib 0 _ rfl
        have ibc1 : wv12.cell? ⟨gib, 1, none⟩ = some (.int .i64 yb) := c_ib 1 _ rfl
        clear f_ib c_ib
        go_wp2_with fail
        clear iac0 iac1 z_ia
        clear ibc0 ibc1 z_ib
        refine (HAF.out _).mono ?_
        rintro e wv13 ⟨rfl, h_⟩
        replace HA : Hid (RowI wv13 sa (ma * 2) U) := HA.out.below h_
        replace HX : Hid (RowI wv13 sb (mb * 2) X) := HX.out.below h_
        replace HU : Hid (RowI wv13 su ((ma + mb) * 2) (catU U (ma * 2) X)) := HU.out.below h_
        replace HV : Hid (RowI wv13 st (4 * 2) V2) := HV.out.below h_
        replace Hia : Hid (Blk wv13 gia [.int .i64 xa, .int .i64 ya]) := Hia.out.below h_
        replace Hib : Hid (Blk wv13 gib [.int .i64 xb, .int .i64 yb]) := Hib.out.below h_
        replace Hic : Hid (Blk wv13 gic [.int .i64 xc, .int .i64 yc]) := Hic.out.below h_
        replace HB : Hid (Below w1.heap.size w1 wv13) := HB.out.trans (h_.mono HB.out.size)
        clear h_
        go_upto_region 17 with fail
        obtain ⟨wv14, hw_⟩ : ∃ x_, x_ = wv13.alloc (.cells #[.int .i64 xc, .int .i64 yc] 41) := ⟨_, rfl⟩
        rw [← hw_]
        have Hiz : Hid (Blk wv14 wv13.heap.size [.int .i64 xc, .int .i64 yc]) := by show Blk _ _ _; rw [hw_]; exact Blk.new wv13 #[.int .i64 xc, .int .i64 yc] _
        have bl_ : Below wv13.heap.size wv13 wv14 := by rw [hw_]; exact below0 _ _
        clear hw_
        replace HA : Hid (RowI wv14 sa (ma * 2) U) := HA.out.below bl_
        replace HX : Hid (RowI wv14 sb (mb * 2) X) := HX.out.below bl_
        replace HU : Hid (RowI wv14 su ((ma + mb) * 2) (catU U (ma * 2) X)) := HU.out.below bl_
        replace HV : Hid (RowI wv14 st (4 * 2) V2) := HV.out.below bl_
        replace Hia : Hid (Blk wv14 gia [.int .i64 xa, .int .i64 ya]) := Hia.out.below bl_
        replace Hib : Hid (Blk wv14 gib [.int .i64 xb, .int .i64 yb]) := Hib.out.below bl_
        replace Hic : Hid (Blk wv14 gic [.int .i64 xc, .int .i64 yc]) := Hic.out.below bl_
        replace HB : Hid (Below w1.heap.size w1 wv14) := HB.out.trans (bl_.mono HB.out.size)
        obtain ⟨giz, hg_⟩ : ∃ g, g = wv13.heap.size := ⟨_, rfl⟩
        rw [← hg_] at Hiz ⊢
        clear hg_ bl_
        obtain ⟨z_ia, f_ia, c_ia⟩ := Hia.out
        have iac0 : wv14.cell? ⟨gia, 0, none⟩ = some (.int .i64 xa) := c_ia 0 _ rfl
        have iac1 : wv14.cell? ⟨gia, 1, none⟩ = some (.int .i64 ya) := c_ia 1 _ rfl
        clear f_ia c_ia
        obtain ⟨z_ib, f_ib, c_ib⟩ := Hib.out
        have ibc0 : wv14.cell? ⟨gib, 0, none⟩ = some (.int .i64 xb) := c_ib 0 _ rfl
        have ibc1 : wv14.cell? ⟨gib, 1, none⟩ = some (.int .i64 yb) := c_ib 1 _ rfl
        clear f_ib c_ib
        obtain ⟨z_ic, f_ic, c_ic⟩ := Hic.out
        have icc0 : wv14.cell? ⟨gic, 0, none⟩ = some (.int .i64 xc) := c_ic 0 _ rfl
        have icc1 : wv14.cell? ⟨gic, 1, none⟩ = some (.int .i64 yc) := c_ic 1 _ rfl
        clear f_ic c_ic
        obtain ⟨z_iz, f_iz, c_iz⟩ := Hiz.out
        have izc0 : wv14.cell? ⟨giz, 0, none⟩ = some (.int .i64 xc) := c_iz 0 _ rfl
        have izc1 : wv14.cell? ⟨giz, 1, none⟩ = some (.int .i64 yc) := c_iz 1 _ rfl
        clear f_iz c_iz
        have BF := HB.out
        have sBF := BF.size
        go_wp2
        go_ret
        exact ⟨rfl, (by repeat (first | with_reducible exact Below.refl _ _ | with_reducible exact BF | with_reducible refine Below.setCell ?_ (by first | omega | (simp; done) | (simp; omega)) _ | with_reducible refine bDrewN ?_ _ | with_reducible refine Below.drew ?_ | with_reducible refine Below.alloc ?_ (by first | omega | (simp; done) | (simp; omega)) _))⟩
theorem fnLifeParts_walk (w : World) (s : Option Addr) (n c : Nat) (hn : n ≤ 9223372036854775807) (R : Bytes w s n) (s2 : Option Addr) (n2 c2 : Nat) (hn2 : n2 ≤ 9223372036854775807) (R2 : Bytes w s2 n2) :
    Calls Try.prog 5 #[.slice s n c, .slice s2 n2 c2] w fun e w' => e = .returned (.bool true) ∧ Below w.heap.size w w' := by
  by_cases h : n ≤ 1048576
  · by_cases h2 : n2 ≤ 1048576
    · exact lifeParts_near w s n c s2 n2 c2 (by omega) (by omega) (R.code h) (R2.code h2)
    · exact lifeParts_far2 w s n c s2 n2 c2 (by omega) (by omega)
  · exact lifeParts_far1 w s n c s2 n2 c2 (by omega)

set_option maxRecDepth 100000 in
theorem fnLifeParts_lifted (os : Os) (started : os.Started) (H : Type) (enc : TypeId × Value → H) :
    ReturnsInHanded {} Try.checked os 5 .any (Rows.fnLifePartsSpec.pre6 enc Try.prog Try.f5 Rows.fnLifePartsRow.domain false) (Rows.fnLifePartsSpec.post enc Try.prog Try.f5 false true false false) := by
  refine returnsInHanded_of_change (C := Try.checked) own started (by kernel_rfl) Try.func5
    (ChangeSpec.witness6 (enc := enc) (C := Try.checked) false ⟨#[], #[.slice none 0 0, .slice none 0 0], []⟩ 8 (by kernel_rfl) (by kernel_rfl) (by kernel_rfl) (by kernel_rfl)) ?_
  intro W base args ds gs before hval0 hW hcnd _
  have hval : ∀ (j : Nat) t v, Try.f5.params[j]? = some t → args[j]? = some v → Value.okWide Try.prog W .any base t v := hval0
  have hW' := hW
  obtain ⟨p, q, hA0, hV, rfl, hfz, hnd⟩ := hW
  have hA : DataW.TrodAll enc Try.prog W 0 (fun _ => true) true Try.f5.params.toList args.toList ds p := hA0
  rw [Try.params5] at hA hval
  obtain ⟨v0, vs0, d0, ds0, p0, q0, hargs, rfl, rfl, h0, r0⟩ := trodAll_cons hA
  obtain ⟨v1, vs1, d1, ds1, p1, q1, rfl, rfl, rfl, h1, r1⟩ := trodAll_cons r0
  obtain ⟨rfl, rfl, rfl⟩ := trodAll_nil r1
  obtain rfl : args = #[v0, v1] := by cases args; simp_all
  obtain ⟨rfl, rfl⟩ := trodVars_none hV
  have k0 := h0
  have lt0 : ∀ x ∈ p0, x.block < W.heap.size := by obtain ⟨m, hm⟩ := k0; exact DataW.trod_lt m _ _ _ hm
  have k1 := h1
  have lt1 : ∀ x ∈ p1, x.block < W.heap.size := by obtain ⟨m, hm⟩ := k1; exact DataW.trod_lt m _ _ _ hm
  obtain ⟨s0, n0, c0, rfl, m0, R0⟩ := open_code Try.underlying31 Try.underlying5 (by kernel_rfl) (hval 0 31 v0 rfl rfl) h0
  obtain ⟨s1, n1, c1, rfl, m1, R1⟩ := open_code Try.underlying31 Try.underlying5 (by kernel_rfl) (hval 1 31 v1 rfl rfl) h1
  clear hA0 hval0
  refine (fnLifeParts_walk W s0 n0 c0 m0 R0 s1 n1 c1 m1 R1).mono fun e W' ⟨he, bel⟩ => ?_
  subst he
  exact ⟨_, rfl, _, _, _, [], _, [], hW', trodAll_mk1 (shut_bool Try.underlying4 _), (trodAll_cons_mk (Below.trod laidOut (by kernel_rfl) (of_decide_eq_true (by kernel_rfl)) k0 bel lt0) (trodAll_cons_mk (Below.trod laidOut (by kernel_rfl) (of_decide_eq_true (by kernel_rfl)) k1 bel lt1) trodAll_mk0)), rfl, bel.frame _, fun h => by cases h⟩

theorem fnLifeParts_holds : Rows.FnLifePartsSaid :=
  OpenClaim.holds_of_wide 5 Try.f5 rfl rfl rfl rfl rfl rfl rfl ⟨rfl, rfl, rfl, rfl, rfl⟩ rfl rfl rfl rfl rfl (by kernel_rfl) Try.func5 (by kernel_rfl)
    (of_decide_eq_true (by kernel_rfl)) (by unfold Func.isWrapper; first | (rw [if_pos (by decide +kernel)]; kernel_rfl) | (rw [if_neg (by decide +kernel)]; exact ⟨rfl, rfl⟩))
    (fun os started H enc _ => fnLifeParts_lifted os started H enc)
#print axioms fnLifeParts_holds
end Go.Proofs.Ythengechoaodcaa
