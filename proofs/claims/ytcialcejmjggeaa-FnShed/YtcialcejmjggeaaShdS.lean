/-
What is proved: which machines the specification's Shed cuts off.
-/
import Derived.Test.YtcialcejmjggeaaShdM
import Derived.Test.YtcialcejmjggeaaPwS
import Derived.Test.YtcialcejmjggeaaRowI
import Derived.Test.YtcialcejmjggeaaAnr
import Derived.Deep.RegionHeldLaw
import Derived.Deep.DeepCutAuto

namespace Go.Proofs.Ytcialcejmjggeaa
set_option maxRecDepth 40000
open Go.ChangeShapes Go.WideShapes Go.ChangeAt Go.RowKit
set_option linter.unusedVariables false
set_option linter.unusedSimpArgs false

def GoneAt (w : World) (g n : Nat) (G : Nat → Bool) : Prop := g < w.heap.size ∧ (∀ o, w.frozen? ⟨g, o, none⟩ = false) ∧ ∀ a, a < n → w.cell? ⟨g, a, none⟩ = some (.bool (G a))
theorem GoneAt.turn {w w' : World} {g n : Nat} {G : Nat → Bool} {S : Nat → Prop} (h : GoneAt w g n G) (ht : Turn S w w') (hn : ¬ S g) : GoneAt w' g n G := ⟨Nat.lt_of_lt_of_le h.1 ht.size, fun o => (ht.frozen (p := ⟨g, o, none⟩) h.1 hn).trans (h.2.1 o), fun a ha => (ht.cell (p := ⟨g, a, none⟩) h.1 hn).trans (h.2.2 a ha)⟩
theorem GoneAt.below {w w' : World} {g n : Nat} {G : Nat → Bool} (h : GoneAt w g n G) (hb : Below w.heap.size w w') : GoneAt w' g n G := h.turn (Turn.grown (S := fun _ => False) hb) (fun h => h)
theorem GoneAt.set {w : World} {g n b : Nat} {G H : Nat → Bool} (h : GoneAt w g n G) (hb : b < n) (hh : ∀ a, H a = (G a || decide (a = b))) : GoneAt (w.setCell ⟨g, b, none⟩ (.bool true)) g n H := by
  refine ⟨by simpa using h.1, fun o => by simp [go_sem, h.2.1], fun a ha => ?_⟩
  have c := h.2.2 b hb
  by_cases q : a = b
  · subst q
    simp [go_sem, c, hh]
  · rw [World.cell?_setCell_other _ _ _ _ (by intro q2; injection q2 with q1 q2 q3; omega), h.2.2 a ha, hh]
    simp [q]
theorem make_boolQ (n : Nat) (hn : n ≤ 1048576) (w : World) : (Instr.makeSlice 46 (.int .i64 (n : Int)) (.int .i64 (n : Int))).run Try.prog w = .ok (.slice (some ⟨w.heap.size, 0, none⟩) n n) (w.alloc (.cells (madeCells #[.bool false] n) 4)) := by
  have hinfo : (Try.prog.info? 4).map (fun i => (i.zero, i.size, i.bytes)) = some (some (.bool false), 1, 1) := by kernel_rfl
  obtain ⟨i, hi, hzz⟩ := Option.map_eq_some_iff.1 hinfo
  simp only [Prod.mk.injEq] at hzz
  obtain ⟨hz, hs, hb⟩ := hzz
  have hr := run_make (P := Try.prog) w 46 4 i _ Try.underlying46 hi hz .i64 .i64 n n (by omega) (Int.le_refl _) (by rw [hb]; omega) (by omega)
  simp only [Int.toNat_natCast, hs, Nat.mul_one] at hr
  exact hr
theorem gone_made (w : World) (n : Nat) (t : TypeId) : GoneAt (w.alloc (.cells (madeCells #[.bool false] n) t)) w.heap.size n (fun _ => false) := by
  refine ⟨by simp, fun o => by simp [go_sem], fun a ha => ?_⟩
  have hm : (madeCells #[.bool false] n)[a]? = some (.bool false) := by
    simp only [madeCells, Array.getElem?_map, Array.getElem?_range, ha, if_true, Option.map_some]
    show some ((#[Value.bool false] : Array Value)[a % 1]!) = _
    rw [Nat.mod_one]; rfl
  simpa [go_sem] using hm
theorem list_i64q {ops : Array Oper} {rest : List Oper} {o : Oper} {a : Act} {Q : Exit → Act → World → Prop} {W : World} {t : TypeId} {x : Int} (base : Nat) (v : Value) (k : Nat) (xs : List Value) (s z : Operand) (hgd : o.guard = none)
    (ho : o.op = .call { callee := .builtin .append, args := #[s, z], argTypes := #[24, 24] }) (hs : a.eval s = v) (hx : a.eval z = .slice (some ⟨W.heap.size, 0, none⟩) 1 1) (hown : W.ownsRow base 2 1 v k xs) (hk : k ≤ 10000000) (hb : base ≤ W.heap.size)
    (h : ∀ g cap w', w'.ownsRow base 2 1 (.slice (some ⟨g, 0, none⟩) (k + 1) cap) (k + 1) (xs ++ [.int .i64 x]) → W.grownBy w' v.ownBlock → (v.ownBlock = some g ∨ W.heap.size < g) → wpList Try.prog ops Q rest (a.put o.dst (.slice (some ⟨g, 0, none⟩) (k + 1) cap)) w') :
    wpList Try.prog ops Q (o :: rest) a (W.alloc (.cells #[.int .i64 x] t)) := by
  obtain ⟨i0, hi, hz0, hz1, hz2⟩ := info_parts info_i64
  refine wpList_append_lies _ hgd s z 24 ho base 2 i0 (.int .i64 0) 1 8 Try.underlying24 hi hz0 hz1 hz2 rfl (by decide) v k xs hs (hown.alloc _) ⟨W.heap.size, 0, none⟩ 1 1 [.int .i64 x] hx rfl (newsOne _ _ _) ?_ (by decide) (by unfold maxLen; omega) (by omega) (by simp; omega) _ rfl ?_
  · intro u hu
    simp at hu
    subst hu; rfl
  · intro g cap w' h1 h2 h4 h3
    exact h g cap w' h1 (grown_new h2) (h4.imp id (fun e => by rw [e]; simp))
theorem best_neg {V : Nat → Int} {G : Nat → Bool} {k : Nat} (hg : G k = false) (h : bestG V G k < 0) : bestG V G (k + 1) = k := by
  show (if G k then _ else _) = _
  rw [hg]
  simp only [Bool.false_eq_true, if_false]
  rw [if_pos (.inl h)]
theorem best_le {V : Nat → Int} {G : Nat → Bool} {k b : Nat} (hg : G k = false) (e : bestG V G k = b) (h : V (b * 4 + 3) ≤ V (k * 4 + 3)) : bestG V G (k + 1) = k := by
  show (if G k then _ else _) = _
  rw [hg, e]
  simp only [Bool.false_eq_true, if_false]
  rw [if_pos (.inr (by simpa using h))]
theorem best_gt {V : Nat → Int} {G : Nat → Bool} {k b : Nat} (hg : G k = false) (e : bestG V G k = b) (h : ¬ V (b * 4 + 3) ≤ V (k * 4 + 3)) : bestG V G (k + 1) = b := by
  show (if G k then _ else _) = _
  rw [hg, e]
  simp only [Bool.false_eq_true, if_false]
  rw [if_neg (fun q => q.elim (fun q => by omega) (fun q => h (by simpa using q)))]
theorem best_gone {V : Nat → Int} {G : Nat → Bool} {k : Nat} (hg : G k = true) : bestG V G (k + 1) = bestG V G k := by
  show (if G k then _ else _) = _
  rw [hg]; rfl
theorem run_gone {V : Nat → Int} {G : Nat → Bool} {k : Nat} (hg : G k = true) : runG V G (k + 1) = runG V G k := by
  show runG V G k + (if G k then _ else _) = _
  rw [hg]; simp
theorem run_here {V : Nat → Int} {G : Nat → Bool} {k : Nat} (hg : G k = false) : runG V G (k + 1) = runG V G k + V (k * 4) := by
  show runG V G k + (if G k then _ else _) = _
  rw [hg]; simp
set_option maxRecDepth 20000 in
set_option maxHeartbeats 4000000 in
theorem specShed_any (s : Option Addr) (n c : Nat) (V : Nat → Int) (most : Int) (w : World) (hn : (n : Int) ≤ 1048576) (HR0 : RowI w s (n * 4) V) :
    Calls Try.prog 9 #[.slice s n c, .int .i64 most] w fun e w' => ∃ s' c', e = .returned (.slice s' (shdN n V most) c') ∧ OwnI w.heap.size w' s' (shdN n V most) (fun j => shU V n j) ∧ Below w.heap.size w w' := by
  have HR : Hid (RowI w s (n * 4) V) := HR0
  have HRW : Hid (RowI w s (n * 4) V) := HR0
  clear HR0
  have hmk := make_boolQ n (by omega)
  go_enter Try.func9, Try.ntmps9
  go_wp2_with fail
  obtain ⟨w0, hw0⟩ : ∃ z, z = w.alloc (.cells #[] 2) := ⟨_, rfl⟩
  obtain ⟨go_, hgo⟩ : ∃ z, w.heap.size = z := ⟨_, rfl⟩
  rw [← hw0, hgo]
  have HB0 : Hid (Below w.heap.size w w0) := by show Below _ _ _; rw [hw0]; exact (by repeat (first | with_reducible exact Below.refl _ _ | with_reducible refine Below.setCell ?_ (by first | omega | (simp; done) | (simp; omega)) _ | with_reducible refine bDrewN ?_ _ | with_reducible refine Below.drew ?_ | with_reducible refine Below.alloc ?_ (by first | omega | (simp; done) | (simp; omega)) _))
  have HO0 : Hid (w0.ownsRow w.heap.size 2 1 (.slice (some ⟨go_, 0, none⟩) 0 0) 0 (vals (fun j => shU V n j) 0)) := by
    show World.ownsRow _ _ _ _ _ _ _
    rw [hw0, ← hgo]
    simpa [vals] using World.ownsRow_lit (base := w.heap.size) (size := 1) (e := 2) w #[] 0 (Nat.le_refl _) (by simp [maxLen]) (by simp)
  have HR1 : Hid (RowI w0 s (n * 4) V) := HR.out.below HB0.out
  clear hw0 hgo HR
  refine (l11Ok_any s n c V _ HR1).mono ?_
  rintro e w1 ⟨rfl, B1⟩
  have HB1 : Hid (Below w.heap.size w w1) := HB0.out.trans (B1.mono HB0.out.size)
  have HO1 : Hid (w1.ownsRow w.heap.size 2 1 (.slice (some ⟨go_, 0, none⟩) 0 0) 0 (vals (fun j => shU V n j) 0)) := row_turn HO0.out (Turn.grown (S := fun _ => False) B1) (fun _ _ h => h)
  have HR2 : Hid (RowI w1 s (n * 4) V) := HR1.out.below B1
  clear B1 HB0 HO0 HR1
  cases hm : machsB n V
  · have NO : Hid (shdN n V most = 0) := shd_no (.inl hm)
    have hB := HB1.out
    clear hm HR2 HO1
    go_wp2
    go_ret
    exact ⟨_, _, by rw [NO.out]; rfl, by rw [NO.out]; exact own_zero _ _ _ _, (by repeat (first | with_reducible exact Below.refl _ _ | with_reducible exact hB | with_reducible refine Below.setCell ?_ (by first | omega | (simp; done) | (simp; omega)) _ | with_reducible refine bDrewN ?_ _ | with_reducible refine Below.drew ?_ | with_reducible refine Below.alloc ?_ (by first | omega | (simp; done) | (simp; omega)) _))⟩
  by_cases h0 : most < 0
  · have NO : Hid (shdN n V most = 0) := shd_no (.inr h0)
    have hB := HB1.out
    clear hm HR2 HO1
    go_wp2
    go_ret
    exact ⟨_, _, by rw [NO.out]; rfl, by rw [NO.out]; exact own_zero _ _ _ _, (by repeat (first | with_reducible exact Below.refl _ _ | with_reducible exact hB | with_reducible refine Below.setCell ?_ (by first | omega | (simp; done) | (simp; omega)) _ | with_reducible refine bDrewN ?_ _ | with_reducible refine Below.drew ?_ | with_reducible refine Below.alloc ?_ (by first | omega | (simp; done) | (simp; omega)) _))⟩
  have p0 : 0 ≤ most := by omega
  have n60 : n ≤ 60 := (machs_yes hm).1
  have HM : Hid (∀ j, j < n → machB V j = true) := (machs_yes hm).2
  have HMS : Hid (machsB n V = true) := hm
  clear hm hn
  go_upto_region 5 with fail
  obtain ⟨w2, hw2⟩ : ∃ z, z = w1.alloc (.cells (madeCells #[.bool false] n) 4) := ⟨_, rfl⟩
  obtain ⟨gb, hgb⟩ : ∃ z, w1.heap.size = z := ⟨_, rfl⟩
  rw [← hw2, hgb]
  have b2 : Below w1.heap.size w1 w2 := by rw [hw2]; exact (by repeat (first | with_reducible exact Below.refl _ _ | with_reducible refine Below.setCell ?_ (by first | omega | (simp; done) | (simp; omega)) _ | with_reducible refine bDrewN ?_ _ | with_reducible refine Below.drew ?_ | with_reducible refine Below.alloc ?_ (by first | omega | (simp; done) | (simp; omega)) _))
  have HG2 : Hid (GoneAt w2 gb n (shG V n 0)) := by show GoneAt _ _ _ _; rw [hw2, ← hgb]; exact gone_made w1 n _
  have HO2 : Hid (w2.ownsRow w.heap.size 2 1 (.slice (some ⟨go_, 0, none⟩) 0 0) 0 (vals (fun j => shU V n j) 0)) := row_turn HO1.out (Turn.grown (S := fun _ => False) b2) (fun _ _ h => h)
  have HR3 : Hid (RowI w2 s (n * 4) V) := HR2.out.below b2
  have HB2 : Hid (Below w.heap.size w w2) := HB1.out.trans (b2.mono HB1.out.size)
  have ne0 : go_ ≠ gb := by have := (HO1.out.lt go_ rfl).2; omega
  have HGE : Hid (w.heap.size ≤ gb) := by show _ ≤ _; rw [← hgb]; exact HB1.out.size
  have HSR : Hid (∀ j b o, j < n * 4 → s = some ⟨b, o, none⟩ → b < w2.heap.size) := fun j b o hj e => by
    obtain ⟨b', o', e', hl, _⟩ := HR3.out j hj
    rw [e] at e'; cases e'; exact hl
  clear hw2 hgb b2 HO1 HR2 HB1 HR3
  go_wp2_with fail
  go_loopw [5] (fun cv wr => ∃ j : Nat, Hid (∀ i, i < j → most < runG V (shG V n i) n) ∧ Hid (GoneAt wr gb n (shG V n j)) ∧ Hid (wr.ownsRow w.heap.size 2 1 cv j (vals (fun j => shU V n j) j)) ∧ Hid (Below w.heap.size w wr) ∧ lenV cv = j ∧ Hid (∀ g, cv.ownBlock = some g → g ≠ gb) ∧ j ≤ n) (fun cv _ => n - lenV cv)
  case atStart => exact ⟨0, fun i hi => by omega, HG2, HO2, HB2, rfl, fun g e => by cases e; exact ne0, Nat.zero_le _⟩
  case round =>
    clear HG2 HO2 HB2
    obtain ⟨j, HRn, HG, HO, HB, hlen, HNB, hjn⟩ := hrel
    have HL : Hid (lenV u5 = j) := hlen
    have HRr : Hid (RowI wr s (n * 4) V) := HRW.out.below HB.out
    obtain ⟨G, hGG⟩ : ∃ z, shG V n j = z := ⟨_, rfl⟩
    have HGG : Hid (shG V n j = G) := hGG
    rw [hGG] at HG
    clear hlen hGG ne0
    rename World => wo
    go_wp2_with fail
    go_loopw [7, 8, 9] (fun sv av iv wx => ∃ k : Nat, k ≤ n ∧ iv = .int .i64 k ∧ sv = .int .i64 (runG V G k) ∧ av = .int .i64 (bestG V G k) ∧ Hid (Below wo.heap.size wo wx)) (fun _ _ iv _ => n - (intOf iv).toNat)
    case atStart => exact ⟨0, Nat.zero_le _, rfl, rfl, rfl, Below.refl _ _⟩
    case round =>
      obtain ⟨k, hk, rfl, rfl, rfl, HBx⟩ := hrel
      have pb := run_bd (V := V) (G := G) n60 hk HM.out
      have bb := best_bd (V := V) (G := G) (n := k)
      have hgx := HG.out.below HBx.out
      by_cases h1 : k < n
      case neg =>
        obtain rfl : k = n := by omega
        have HBT : Hid (Below w.heap.size w wr) := HB.out.trans (HBx.out.mono HB.out.size)
        have HOx : Hid (wr.ownsRow w.heap.size 2 1 u5 j (vals (fun j => shU V k j) j)) := row_turn HO.out (Turn.grown (S := fun _ => False) HBx.out) (fun _ _ h => h)
        have HGx : Hid (GoneAt wr gb k G) := hgx
        clear hgx HBx HO HG bb h1 hk
        by_cases hs : runG V G k ≤ most
        · have HE : Hid (shdN k V most = j) := shd_end HMS.out p0 HRn.out (by rw [HGG.out]; exact hs)
          obtain ⟨s', c', e5, HOW⟩ := own_OwnI (size := 1) (n := j) (U := fun j => shU V k j) (by rw [Nat.mul_one]; exact HOx.out)
          rw [Nat.mul_one] at HOW
          subst e5
          have HOW2 : Hid (OwnI w.heap.size wr s' j (fun j => shU V k j)) := HOW
          clear HOW HOx HGx HRn HL
          obtain ⟨p, hp⟩ : ∃ p, runG V G k = p := ⟨_, rfl⟩
          rw [hp] at pb hs ⊢
          clear hp
          go_wp2
          go_ret
          first
            | exact ⟨s', c', by rw [HE.out]; rfl, by rw [HE.out]; exact HOW2.out, HBT.out⟩
            | exact ⟨s', ⟨c', by rw [HE.out]; rfl⟩, by rw [HE.out]; exact HOW2.out, HBT.out⟩
        · have hs2 : most < runG V (shG V k j) k := by rw [HGG.out]; omega
          obtain ⟨b, eu, hb, hgb, -, hj1⟩ := sh_best p0 HM.out HRn.out hs2
          have HEU : Hid (shU V k j = (b : Int)) := eu
          have eb : bestG V G k = (b : Int) := by rw [← HGG.out]; exact eu
          have HRn2 : Hid (∀ i, i < j + 1 → most < runG V (shG V k i) k) := fun i hi => by
            by_cases q : i = j
            · subst q; exact hs2
            · exact HRn.out i (by omega)
          have HG2 : Hid (GoneAt (wr.setCell ⟨gb, b, none⟩ (.bool true)) gb k (shG V k (j + 1))) := by
            refine HGx.out.set hb ?_
            rw [← HGG.out]
            exact shG_succ V k j eu
          have cb := HGx.out.2.2 b hb
          have fb := HGx.out.2.1
          have zb := HGx.out.1
          have kb : (b : Int) < (k : Int) := by omega
          obtain ⟨p, hp⟩ : ∃ p, runG V G k = p := ⟨_, rfl⟩
          rw [hp] at pb hs ⊢
          rw [eb]
          clear hp eb hs2 eu HRn hgb
          go_upto_region 17 with fail
          clear cb fb
          obtain ⟨w5, hw5⟩ : ∃ z, z = wr.setCell ⟨gb, b, none⟩ (.bool true) := ⟨_, rfl⟩
          rw [← hw5] at HG2 ⊢
          have T5 : Turn (fun k => k = gb) wr w5 := by rw [hw5]; exact Turn.of (Beside.setCell gb _ _ _) rfl
          have HO5 : Hid (w5.ownsRow w.heap.size 2 1 u5 j (vals (fun j => shU V k j) j)) := row_turn HOx.out T5 (fun g e h => HNB.out g e h)
          have HB5 : Hid (Below w.heap.size w w5) := HBT.out.trans (T5.below (fun _ h => by rw [h]; exact HGE.out) HBT.out.size)
          have s5 : w.heap.size ≤ w5.heap.size := HB5.out.size
          have HZ5 : Hid (gb < w5.heap.size) := HG2.out.1
          clear hw5 T5 HOx HBT HGx zb
          go_wp2_with (first | (at_builtin; refine list_i64q w.heap.size u5 j (vals (fun j => shU V k j) j) _ _ (by rfl) (by rfl) (by rfl) (by rfl) HO5.out (by omega) s5 ?_; intro g8 cap8 w8 o8 gr8 gn8))
          have HO8 : Hid (w8.ownsRow w.heap.size 2 1 (.slice (some ⟨g8, 0, none⟩) (j + 1) cap8) (j + 1) (vals (fun j => shU V k j) (j + 1))) := by
            show World.ownsRow _ _ _ _ _ _ _
            rw [vals_succ]
            rw [show shU V k j = (b : Int) from HEU.out]
            exact o8
          have T8 : Turn (fun b => u5.ownBlock = some b) w5 w8 := ⟨gr8.os, gr8.tape, gr8.output, gr8.size, fun k hk hk2 => gr8.block k hk (fun e => hk2 e.symm)⟩
          have HG8 : Hid (GoneAt w8 gb k (shG V k (j + 1))) := HG2.out.turn T8 (fun e => HNB.out gb e rfl)
          have HB8 : Hid (Below w.heap.size w w8) := HB5.out.trans (T8.below (fun g e => own_block HO5.out g e) HB5.out.size)
          have HNB8 : Hid (∀ g, (Value.slice (some ⟨g8, 0, none⟩) (j + 1) cap8).ownBlock = some g → g ≠ gb) := fun g e => by
            have e2 : g8 = g := by simpa [Value.ownBlock] using e
            subst e2
            rcases gn8 with h | h
            · exact HNB.out _ h
            · have := HZ5.out; omega
          have HLL : Hid (j < k) := hj1
          clear o8 gr8 gn8 T8 HO5 HB5 HG2 HNB hj1
          go_wp2
          go_roundw
          case rel => exact ⟨j + 1, HRn2, HG8, HO8, HB8, rfl, HNB8, HLL.out⟩
          case measure =>
            show k - (j + 1) < k - lenV u5
            have := HLL.out
            rw [HL.out]; omega
      have k1 : (k : Int) < (n : Int) := by omega
      have zg := hgx.1
      have cg := hgx.2.2 k h1
      cases hg : G k
      · obtain ⟨⟨vb0, vb1⟩, -, -, -⟩ := machV_yes (HM.out k h1)
        obtain ⟨gr, o, rfl, hl0, c0⟩ := HRr.out (k * 4) (by omega)
        obtain ⟨g', o', e', hl3, c3⟩ := HRr.out (k * 4 + 3) (by omega)
        cases e'
        have hBx := HBx.out
        have d0 : wr.cell? ⟨gr, o + k * 4, none⟩ = some (.int .i64 (V (k * 4))) := (hBx.cell (p := ⟨gr, o + k * 4, none⟩) hl0).trans c0
        have d3 : wr.cell? ⟨gr, o + k * 4 + 3, none⟩ = some (.int .i64 (V (k * 4 + 3))) := (hBx.cell (p := ⟨gr, o + (k * 4 + 3), none⟩) hl0).trans c3
        have E2 : Hid (runG V G (k + 1) = runG V G k + V (k * 4)) := run_here hg
        rw [hg] at cg
        clear hgx c0 c3 hl3 hBx
        rcases best_is V G k with ⟨eb, -⟩ | ⟨bn, eb, hbk, -, -⟩
        · have E1 : Hid (bestG V G (k + 1) = k) := best_neg hg (by rw [eb]; decide)
          clear hg
          obtain ⟨p, hp⟩ : ∃ p, runG V G k = p := ⟨_, rfl⟩
          rw [hp] at pb E2 ⊢
          rw [eb]
          clear hp eb bb
          have ew : IntKind.i64.wrap (p + V (k * 4)) = p + V (k * 4) := by rw [IntKind.wrap_i64]; omega
          go_wp2_with fail
          go_quiet (fail)
          go_wp2
          go_roundw
          case rel => exact ⟨k + 1, by omega, by go_num, by rw [E2.out], by rw [E1.out], by show Below _ _ _; have hB := HBx.out; exact (by repeat (first | with_reducible exact Below.refl _ _ | with_reducible exact hB | with_reducible refine Below.setCell ?_ (by first | omega | (simp; done) | (simp; omega)) _ | with_reducible refine bDrewN ?_ _ | with_reducible refine Below.drew ?_ | with_reducible refine Below.alloc ?_ (by first | omega | (simp; done) | (simp; omega)) _))⟩
          case measure => simp [intOf]; omega
        · obtain ⟨g', o', e', hl4, c4⟩ := HRr.out (bn * 4 + 3) (by omega)
          cases e'
          have e3 : wr.cell? ⟨gr, o + bn * 4 + 3, none⟩ = some (.int .i64 (V (bn * 4 + 3))) := (HBx.out.cell (p := ⟨gr, o + (bn * 4 + 3), none⟩) hl0).trans c4
          have bk1 : (bn : Int) < (n : Int) := by omega
          have bk2 : decide ((bn : Int) < 0) = false := by first | (simp; done) | (simp; omega)
          clear c4 hl4 bb
          by_cases hr : V (bn * 4 + 3) ≤ V (k * 4 + 3)
          · have E1 : Hid (bestG V G (k + 1) = k) := best_le hg eb hr
            have hr2 : decide (V (bn * 4 + 3) ≤ V (k * 4 + 3)) = true := by simpa using hr
            clear hg
            obtain ⟨p, hp⟩ : ∃ p, runG V G k = p := ⟨_, rfl⟩
            rw [hp] at pb E2 ⊢
            rw [eb]
            clear hp eb
            have ew : IntKind.i64.wrap (p + V (k * 4)) = p + V (k * 4) := by rw [IntKind.wrap_i64]; omega
            go_wp2_with fail
            go_quiet (fail)
            go_wp2
            go_roundw
            case rel => exact ⟨k + 1, by omega, by go_num, by rw [E2.out], by rw [E1.out], by show Below _ _ _; have hB := HBx.out; exact (by repeat (first | with_reducible exact Below.refl _ _ | with_reducible exact hB | with_reducible refine Below.setCell ?_ (by first | omega | (simp; done) | (simp; omega)) _ | with_reducible refine bDrewN ?_ _ | with_reducible refine Below.drew ?_ | with_reducible refine Below.alloc ?_ (by first | omega | (simp; done) | (simp; omega)) _))⟩
            case measure => simp [intOf]; omega
          · have E1 : Hid (bestG V G (k + 1) = bn) := best_gt hg eb hr
            have hr2 : decide (V (bn * 4 + 3) ≤ V (k * 4 + 3)) = false := by simpa using hr
            clear hg
            obtain ⟨p, hp⟩ : ∃ p, runG V G k = p := ⟨_, rfl⟩
            rw [hp] at pb E2 ⊢
            rw [eb]
            clear hp eb
            have ew : IntKind.i64.wrap (p + V (k * 4)) = p + V (k * 4) := by rw [IntKind.wrap_i64]; omega
            go_wp2_with fail
            go_quiet (fail)
            go_wp2
            go_roundw
            case rel => exact ⟨k + 1, by omega, by go_num, by rw [E2.out], by rw [E1.out], by show Below _ _ _; have hB := HBx.out; exact (by repeat (first | with_reducible exact Below.refl _ _ | with_reducible exact hB | with_reducible refine Below.setCell ?_ (by first | omega | (simp; done) | (simp; omega)) _ | with_reducible refine bDrewN ?_ _ | with_reducible refine Below.drew ?_ | with_reducible refine Below.alloc ?_ (by first | omega | (simp; done) | (simp; omega)) _))⟩
            case measure => simp [intOf]; omega
      · have E1 : Hid (bestG V G (k + 1) = bestG V G k) := best_gone hg
        have E2 : Hid (runG V G (k + 1) = runG V G k) := run_gone hg
        rw [hg] at cg
        clear hg hgx
        obtain ⟨p, hp⟩ : ∃ p, runG V G k = p := ⟨_, rfl⟩
        obtain ⟨b, hb⟩ : ∃ b, bestG V G k = b := ⟨_, rfl⟩
        rw [hp] at pb E2 ⊢
        rw [hb] at bb E1 ⊢
        clear hp hb
        go_wp2
        go_roundw
        case rel => exact ⟨k + 1, by omega, by go_num, by rw [E2.out], by rw [E1.out], HBx⟩
        case measure => simp [intOf]; omega
end Go.Proofs.Ytcialcejmjggeaa
