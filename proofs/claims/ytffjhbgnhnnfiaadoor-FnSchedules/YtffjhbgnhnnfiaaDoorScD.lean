/-
What is proved: what DrawScheduleOk draws: at most 41 jobs with any numbers, any number of crews, at most 42 beginnings.
-/
import Derived.Test.YtffjhbgnhnnfiaaDoorJbD
import Derived.Test.YtffjhbgnhnnfiaaDoorSdT
import Derived.Test.YtffjhbgnhnnfiaaDoorRdC
import Derived.ArgAppend
import Derived.Deep.RegionHeldLaw
namespace Go.Proofs.YtffjhbgnhnnfiaaDoor
set_option maxRecDepth 40000
open Go.ChangeShapes Go.WideShapes Go.ChangeAt Go.RowKit
set_option linter.unusedVariables false
set_option linter.unusedSimpArgs false

def puJ (F : Nat → Int) (h : Nat) (x : Int) : Nat → Int := fun j => if j = h then x else F j
/-- A stack in memory: h numbers, in a block from B on, its room as told. -/
def StkJ (B : Nat) (W : World) (v : Value) (h : Nat) (F : Nat → Int) : Prop := (v = .slice none 0 0 ∧ h = 0) ∨ ∃ g cap, v = .slice (some ⟨g, 0, none⟩) h cap ∧ B ≤ g ∧ g < W.heap.size ∧ h ≤ cap ∧ (∀ o, W.frozen? ⟨g, o, none⟩ = false) ∧ (∀ j, j < h → W.cell? ⟨g, j, none⟩ = some (.int .i64 (F j))) ∧ ∀ j, j < cap → (W.cell? ⟨g, j, none⟩).isSome = true
theorem StkJ.same {B h : Nat} {W W' : World} {v : Value} {F : Nat → Int} (s : StkJ B W v h F) (hs : W.heap.size ≤ W'.heap.size) (hb : ∀ g, v.ownBlock = some g → W'.heap[g]? = W.heap[g]?) : StkJ B W' v h F := by
  rcases s with s | ⟨g, cap, rfl, h1, h2, h3, h4, h5, h6⟩
  · exact .inl s
  · have e := hb g rfl
    exact .inr ⟨g, cap, rfl, h1, Nat.lt_of_lt_of_le h2 hs, h3, fun o => (World.frozen?_of_block (w := W) e).trans (h4 o), fun j hj => (World.cell?_of_block (w := W) e).trans (h5 j hj), fun j hj => by rw [World.cell?_of_block (w := W) (a := ⟨g, j, none⟩) e]; exact h6 j hj⟩
theorem StkJ.lt {B h : Nat} {W : World} {v : Value} {F : Nat → Int} (s : StkJ B W v h F) : ∀ g, v.ownBlock = some g → B ≤ g ∧ g < W.heap.size := by
  intro g hg
  rcases s with ⟨rfl, _⟩ | ⟨g', cap, rfl, h1, h2, _⟩
  · cases hg
  · cases hg; exact ⟨h1, h2⟩
theorem StkJ.below {B h : Nat} {W W' : World} {v : Value} {F : Nat → Int} (s : StkJ B W v h F) (hb : Below W.heap.size W W') : StkJ B W' v h F := s.same hb.size fun g hg => hb.block g (s.lt g hg).2
theorem StkJ.beside {B h r : Nat} {W W' : World} {v : Value} {F : Nat → Int} (s : StkJ B W v h F) (hb : Beside r W W') (hr : r < B) : StkJ B W' v h F := s.same hb.2.2.2.1 fun g hg => hb.2.2.2.2 g (s.lt g hg).2 (by have := (s.lt g hg).1; omega)
theorem stkJ_own {B B' h : Nat} {W : World} {v : Value} {F : Nat → Int} (hB : B ≤ B') (ho : W.ownsRow B' 2 1 v h (vals F h)) : StkJ B W v h F := by
  rcases ho with ⟨hl, ⟨rfl, rfl⟩ | ⟨g, cap, cur, rfl, h1, h2, h3, h4, h5, h6⟩⟩
  · exact .inl ⟨rfl, rfl⟩
  · have zg := (Array.getElem?_eq_some_iff.1 h2).1
    have ce : ∀ j, W.cell? ⟨g, j, none⟩ = cur[j]? := fun j => by simp [World.cell?, h2]
    refine .inr ⟨g, cap, rfl, by omega, zg, h3, fun o => by simp [World.frozen?, h2], fun j hj => ?_, fun j hj => ?_⟩
    · rw [ce]
      have : (cur.toList.take (h * 1))[j]? = some (.int .i64 (F j)) := by rw [h6, vals_at F hj]
      rw [List.getElem?_take_of_lt (by omega)] at this
      simpa using this
    · rw [ce]
      simp
      omega
theorem vals_pushJ (F : Nat → Int) (h : Nat) (x : Int) : vals F h ++ [.int .i64 x] = vals (puJ F h x) (h + 1) := by
  rw [vals_succ]
  congr 1
  · exact vals_congr fun j hj => by unfold puJ; rw [if_neg (by omega)]
  · unfold puJ; rw [if_pos rfl]
theorem list_pushJ {ops : Array Oper} {rest : List Oper} {o : Oper} {a : Act} {Q : Exit → Act → World → Prop} {W : World} {t : TypeId} {x : Int} (B : Nat) (v : Value) (h : Nat) (F : Nat → Int) (s z : Operand) (hgd : o.guard = none)
    (ho : o.op = .call { callee := .builtin .append, args := #[s, z], argTypes := #[25, 25] }) (hs : a.eval s = v) (hx : a.eval z = .slice (some ⟨W.heap.size, 0, none⟩) 1 1) (S : StkJ B W v h F) (hB : B ≤ W.heap.size) (hh : h ≤ 10000)
    (k : ∀ s' cap' w', StkJ B w' (.slice s' (h + 1) cap') (h + 1) (puJ F h x) → Below B W w' → wpList Tryd.prog ops Q rest (a.put o.dst (.slice s' (h + 1) cap')) w') :
    wpList Tryd.prog ops Q (o :: rest) a (W.alloc (.cells #[.int .i64 x] t)) := by
  obtain ⟨i0, hi, hz0, hz1, hz2⟩ := info_parts info_i64
  rcases S with ⟨rfl, rfl⟩ | ⟨g, cap, rfl, h1, h2, h3, h4, h5, h6⟩
  · refine list_i64 (x := x) B _ 0 [] s z hgd ho hs hx (World.ownsRow_nil W B 2 1) (by omega) hB ?_
    intro g cap w' ho' hg _
    exact k _ _ w' (stkJ_own (Nat.le_refl _) (by have e := vals_pushJ F 0 x; simp only [vals, List.range_zero, List.map_nil, List.nil_append] at e ⊢; rw [← e]; exact ho')) (grown_below hg hB (fun r hr => by cases hr))
  · have zA : g < (W.alloc (.cells #[.int .i64 x] t)).heap.size := by simp; omega
    have bA : Below W.heap.size W (W.alloc (.cells #[.int .i64 x] t)) := below0 _ _
    have cA : ∀ j, (W.alloc (.cells #[.int .i64 x] t)).cell? ⟨g, j, none⟩ = W.cell? ⟨g, j, none⟩ := fun j => bA.cell (p := ⟨g, j, none⟩) h2
    have fA : ∀ j, (W.alloc (.cells #[.int .i64 x] t)).frozen? ⟨g, j, none⟩ = false := fun j => (bA.frozen (p := ⟨g, j, none⟩) h2).trans (h4 j)
    refine wpList_append_arg _ hgd s z 25 ho 2 i0 (.int .i64 0) 1 8 Tryd.underlying25 hi hz0 hz1 hz2 rfl (by decide) g 0 h cap (vals F h) hs (by rw [vals_length, Nat.mul_one]) ?_ ⟨W.heap.size, 0, none⟩ 1 1 [.int .i64 x] hx rfl (newsOne _ _ _) ?_ ?_ (by unfold maxLen; omega) (by omega) ?_ ?_
    · intro j u hj
      by_cases q : j < h
      · rw [vals_at F q] at hj
        rw [Nat.zero_add, cA, h5 j q]; exact hj
      · have := (List.getElem?_eq_some_iff.1 hj).1
        rw [vals_length] at this; omega
    · intro u hu
      simp at hu
      subst hu; rfl
    · intro hc j hj
      simp at hj
      subst hj
      exact ⟨by rw [cA]; exact h6 _ (by omega), fA _⟩
    · intro hc
      have e : (W.alloc (.cells #[.int .i64 x] t)).setCells g (0 + h * 1) [.int .i64 x] = (W.alloc (.cells #[.int .i64 x] t)).setCell ⟨g, h, none⟩ (.int .i64 x) := by simp [World.setCells]
      rw [e]
      have bs := Beside.setCell g (W.alloc (.cells #[.int .i64 x] t)) h (.int .i64 x)
      have ch : ((W.alloc (.cells #[.int .i64 x] t)).cell? ⟨g, h, none⟩).isSome = true := by rw [cA]; exact h6 _ (by omega)
      refine k _ _ _ (.inr ⟨g, cap, rfl, h1, by simpa using zA, hc, fun o => by simp [go_sem, fA], fun j hj => ?_, fun j hj => ?_⟩) ((bA.mono hB).trans (bs.below h1 (by simp; omega)))
      · unfold puJ
        by_cases q : j = h
        · subst q
          rw [if_pos rfl]
          exact World.cell?_setCell_same' _ _ _ ch
        · rw [if_neg q, World.cell?_setCell_other _ _ _ _ (by intro r; cases r; exact q rfl), cA]
          exact h5 j (by omega)
      · by_cases q : j = h
        · subst q
          rw [World.cell?_setCell_same' _ _ _ ch]; rfl
        · rw [World.cell?_setCell_other _ _ _ _ (by intro r; cases r; exact q rfl), cA]
          exact h6 j hj
    · intro hc v' w' ho' hg
      rw [vals_pushJ] at ho'
      have st : StkJ B w' v' (h + 1) (puJ F h x) := stkJ_own (by simp; omega) ho'
      have bl : Below B W w' := (bA.mono hB).trans (grown_below hg (by simp; omega) (fun r hr => by cases hr))
      rcases st with ⟨_, q⟩ | ⟨g', cap', rfl, r⟩
      · omega
      · exact k _ _ w' (.inr ⟨g', cap', rfl, r⟩) bl
theorem OwR.stk {cap base : Nat} {w : World} {s : Option Addr} {k : Nat} {V : Nat → Int} (h : OwR cap base w s k V) : StkJ base w (.slice s k cap) k V := by
  rcases h.2 with ⟨rfl, rfl, rfl⟩ | ⟨b, rfl, h1, h2, h3, h4, h5⟩
  · exact .inl ⟨rfl, rfl⟩
  · refine .inr ⟨b, cap, rfl, h1, h2, h3, h4, fun j hj => ?_, h5⟩
    obtain ⟨b', e, _, _, hc, _⟩ := h.1 j hj
    cases e
    exact hc
theorem StkJ.row {B h : Nat} {W : World} {s : Option Addr} {cap : Nat} {F : Nat → Int} (hs : StkJ B W (.slice s h cap) h F) : RowI W s h F := fun j hj => by
  rcases hs with ⟨_, q⟩ | ⟨g, cap', e, h1, h2, h3, h4, h5, h6⟩
  · omega
  · cases e
    exact ⟨g, 0, rfl, h2, by rw [Nat.zero_add]; exact h5 j hj⟩
theorem StkJ.set {B h g cap : Nat} {W : World} {F : Nat → Int} (hs : StkJ B W (.slice (some ⟨g, 0, none⟩) h cap) h F) {q : Nat} (hq : q < h) (x : Int) : StkJ B (W.setCell ⟨g, q, none⟩ (.int .i64 x)) (.slice (some ⟨g, 0, none⟩) h cap) h (updJ F q x) := by
  rcases hs with ⟨e, _⟩ | ⟨g', cap', e, h1, h2, h3, h4, h5, h6⟩
  · cases e
  · cases e
    refine .inr ⟨g, cap, rfl, h1, by simpa using h2, h3, fun o => by simp [go_sem, h4], fun j hj => ?_, fun j hj => ?_⟩
    · unfold updJ
      by_cases e : j = q
      · subst e
        rw [if_pos rfl]
        exact World.cell?_setCell_same' _ _ _ (by rw [h5 j hj]; rfl)
      · rw [if_neg e, World.cell?_setCell_other _ _ _ _ (by intro z; cases z; exact e rfl)]
        exact h5 j hj
    · obtain ⟨u, hu⟩ := Option.isSome_iff_exists.1 (h6 j hj)
      by_cases e : j = q
      · subst e
        rw [World.cell?_setCell_same' _ _ _ (by rw [hu]; rfl)]; rfl
      · rw [World.cell?_setCell_other _ _ _ _ (by intro z; cases z; exact e rfl), hu]; rfl
def DsoPost (w : World) (e : Ending) (w' : World) : Prop := ∃ (t : Option Addr) (m cap : Nat) (cr : Int) (t2 : Option Addr) (m2 cap2 : Nat) (X : Nat → Int) (K : Nat → Nat) (V : Nat → Nat → Int) (U : Nat → Int), e = .returned (.tuple #[.slice t m cap, .int .i64 cr, .slice t2 m2 cap2]) ∧ m ≤ 41 ∧ m2 ≤ 42 ∧ (∀ i, i < m → K i ≤ 60) ∧ RowJbs w' t m X K V ∧ RowI w' t2 m2 U ∧ Below w.heap.size w w'
set_option maxRecDepth 20000 in
set_option maxHeartbeats 16000000 in
theorem drawScheduleOk_any {s : Option Addr} {n c : Nat} {w : World} (h : Hid (Code8 w s n)) : Calls Tryd.prog 8 #[.slice s n c] w fun e w' => DsoPost w e w' := by
  go_enter Tryd.func8, Tryd.ntmps8
  go_wp2_with fail
  refine (open_any (h.out.below (by repeat (first | with_reducible exact Below.refl _ _ | with_reducible refine Below.setCell ?_ (by first | omega | (simp; done) | (simp; omega)) _ | with_reducible refine bDrewN ?_ _ | with_reducible refine Below.drew ?_ | with_reducible refine Below.alloc ?_ (by first | omega | (simp; done) | (simp; omega)) _)))).mono ?_
  rintro e w1 ⟨rfl, R_, b_⟩
  obtain ⟨r, hr⟩ : ∃ r, r = w.heap.size := ⟨_, rfl⟩
  have HR : Hid (Rd w1 r s n c 0) := by show Rd _ _ _ _ _ _; rw [hr]; simpa using R_
  have HB : Hid (Below w.heap.size w w1) := (show Below w.heap.size w _ from (by repeat (first | with_reducible exact Below.refl _ _ | with_reducible refine Below.setCell ?_ (by first | omega | (simp; done) | (simp; omega)) _ | with_reducible refine bDrewN ?_ _ | with_reducible refine Below.drew ?_ | with_reducible refine Below.alloc ?_ (by first | omega | (simp; done) | (simp; omega)) _))).trans (b_.mono (by first | omega | (simp; done) | (simp; omega)))
  have zr : w.heap.size ≤ r := by omega
  try rw [show w.heap.size = r by rw [hr]; simp]
  try rw [← hr]
  clear R_ b_ h hr
  obtain ⟨B, hB⟩ : ∃ z, z = w1.heap.size := ⟨_, rfl⟩
  have zB : r < B := by rw [hB]; exact HR.out.1
  go_wp2_with fail
  refine (jobs_any HR).mono ?_
  rintro e w2 ⟨t, m, cap, p2, rfl, m41, G_, R_, b_⟩
  replace HB : Hid (Below w.heap.size w w2) := HB.out.trans (b_.below zr HB.out.size)
  have HG : Hid (JtL B w2 (.slice t m cap) m) := by show JtL _ _ _ _; rw [hB]; exact G_
  have HZ : Hid (B ≤ w2.heap.size) := by show _ ≤ _; rw [hB]; exact b_.2.2.2.1
  clear HR
  have HR : Hid (Rd w2 r s n c p2) := R_
  clear R_ b_ G_ hB
  go_wp2_with fail
  refine (off_any 1 4 (by omega) (by omega) (by omega) HR).mono ?_
  rintro e w3 ⟨cr, p3, rfl, crw, R_, b_⟩
  replace HB : Hid (Below w.heap.size w w3) := HB.out.trans (b_.below zr HB.out.size)
  replace HG : Hid (JtL B w3 (.slice t m cap) m) := HG.out.beside b_ zB
  replace HZ : Hid (B ≤ w3.heap.size) := Nat.le_trans HZ.out b_.2.2.2.1
  clear HR
  have HR : Hid (Rd w3 r s n c p3) := R_
  clear R_ b_
  go_wp2_with fail
  refine (below_any 2 HR).mono ?_
  rintro e w4 ⟨b2, p4, rfl, bb0, -, bb1, R_, b_⟩
  replace HB : Hid (Below w.heap.size w w4) := HB.out.trans (b_.below zr HB.out.size)
  replace HG : Hid (JtL B w4 (.slice t m cap) m) := HG.out.beside b_ zB
  replace HZ : Hid (B ≤ w4.heap.size) := Nat.le_trans HZ.out b_.2.2.2.1
  clear HR
  have HR : Hid (Rd w4 r s n c p4) := R_
  clear R_ b_
  obtain ⟨q1, hq1⟩ : ∃ q, IntKind.i64.wrap (cr + b2) = q := ⟨_, rfl⟩
  obtain ⟨X, K, V, HRow, HK⟩ := HG.out.row
  have HX : Hid (RowJbs w4 t m X K V) := HRow
  have HK1 : Hid (∀ i, i < m → (K i : Int) ≤ 1048576) := fun i hi => by have := HK i hi; omega
  have HK2 : Hid (∀ i, i < m → K i ≤ 60) := HK
  clear HRow HK bb0 bb1
  rcases (show (q1 < 10 ∧ 1 < q1) ∨ (q1 < 10 ∧ ¬ 1 < q1) ∨ ¬ q1 < 10 from by omega) with ⟨a1, a2⟩ | ⟨a1, a2⟩ | a1
  all_goals
    go_wp2_with fail
    refine (specSchedule_ex t m cap X K V _ _ (by omega) HK1 HX).mono ?_
    rintro e w5 ⟨s5, c5, k5, FI, E5, rfl, hk5, O5, F5, h5⟩
    have HB5 : Hid (Below w.heap.size w w5) := HB.out.trans (h5.mono HB.out.size)
    have HQ5 : Hid (KpQ B w4.heap.size w4 w5) := fun g _ g2 => h5.block g g2
    have HZ5 : Hid (w4.heap.size ≤ w5.heap.size) := h5.size
    have HR5 : Hid (Rd w5 r s n c p4) := HR.out.below h5
    have HS5 : Hid (StkJ w4.heap.size w5 (.slice s5 k5 c5) k5 FI) := O5.stk
    have HF5 : Hid (∀ j, j < k5 → 0 ≤ FI j ∧ FI j ≤ 41000) := F5
    have zr4 : r < w4.heap.size := HR.out.1
    have zw4 : w.heap.size ≤ w4.heap.size := HB.out.size
    clear O5 F5 h5 HX HR HB hq1 a1 crw HZ
    try clear a2
    by_cases k0 : 0 < k5
    case neg =>
      obtain rfl : k5 = 0 := by omega
      go_upto_region 8 with fail
      go_wp2_with fail
      refine (once_any 30 (by omega) (by omega) HR5).mono ?_
      rintro e y1 ⟨bo, q8, rfl, R_, b_⟩
      have HB_ : Hid (Below w.heap.size w y1) := HB5.out.trans (b_.below zr HB5.out.size)
      have HQ_ : Hid (KpQ B w4.heap.size w4 y1) := fun g g1 g2 => (b_.2.2.2.2 g (Nat.lt_of_lt_of_le g2 HZ5.out) (by omega)).trans (HQ5.out g g1 g2)
      have HZ_ : Hid (w4.heap.size ≤ y1.heap.size) := Nat.le_trans HZ5.out b_.2.2.2.1
      have HS_ : Hid (StkJ w4.heap.size y1 (.slice s5 0 c5) 0 FI) := HS5.out.beside b_ zr4
      have HR_ : Hid (Rd y1 r s n c q8) := R_
      clear HB5 HQ5 HZ5 HS5 HR5 R_ b_
      have HB5 := HB_
      have HQ5 := HQ_
      have HZ5 := HZ_
      have HS5 := HS_
      have HR5 := HR_
      clear HB_ HQ_ HZ_ HS_ HR_
      cases bo
      · go_wp2
        obtain ⟨X9, K9, V9, r9, k9⟩ := (HG.out.same (W' := y1) (fun g g1 g2 => HQ5.out g g1 g2)).row
        refine bodyPost_ret (v := .tuple #[.slice t m cap, .int .i64 cr, .slice s5 0 c5]) (by simp [results, Tryd.results8, go_sem]) rfl ?_
        exact ⟨t, m, cap, cr, s5, 0, c5, X9, K9, V9, FI, rfl, m41, by omega, k9, r9, HS5.out.row, HB5.out⟩
      · have zz := HZ5.out
        go_wp2_with (at_builtin; refine list_pushJ w4.heap.size (.slice s5 0 c5) 0 FI (.tmp 57) (.tmp 58) (by rfl) (by rfl) (by rfl) (by rfl) HS5.out zz (by omega) ?_; intro s9 c9 w9 l9 b9; have Hl9 : Hid (StkJ w4.heap.size w9 (.slice s9 (0 + 1) c9) (0 + 1) (puJ FI 0 0)) := l9; have Hb9 : Hid (Below w4.heap.size y1 w9) := b9; clear l9 b9)
        obtain ⟨X9, K9, V9, r9, k9⟩ := (HG.out.same (W' := w9) (fun g g1 g2 => (Hb9.out.block g g2).trans (HQ5.out g g1 g2))).row
        refine bodyPost_ret (v := .tuple #[.slice t m cap, .int .i64 cr, .slice s9 (0 + 1) c9]) (by simp [results, Tryd.results8, go_sem]) rfl ?_
        exact ⟨t, m, cap, cr, s9, (0 + 1), c9, X9, K9, V9, _, rfl, m41, by omega, k9, r9, Hl9.out.row, (HB5.out.trans (Hb9.out.mono zw4))⟩
    case pos =>
      have k0i : (0 : Int) < (k5 : Int) := by omega
      go_upto_region 5 with fail
      go_wp2_with fail
      refine (once_any 2 (by omega) (by omega) HR5).mono ?_
      rintro e y2 ⟨bn, q6, rfl, R_, b_⟩
      have HB_ : Hid (Below w.heap.size w y2) := HB5.out.trans (b_.below zr HB5.out.size)
      have HQ_ : Hid (KpQ B w4.heap.size w4 y2) := fun g g1 g2 => (b_.2.2.2.2 g (Nat.lt_of_lt_of_le g2 HZ5.out) (by omega)).trans (HQ5.out g g1 g2)
      have HZ_ : Hid (w4.heap.size ≤ y2.heap.size) := Nat.le_trans HZ5.out b_.2.2.2.1
      have HS_ : Hid (StkJ w4.heap.size y2 (.slice s5 k5 c5) k5 FI) := HS5.out.beside b_ zr4
      have HR_ : Hid (Rd y2 r s n c q6) := R_
      clear HB5 HQ5 HZ5 HS5 HR5 R_ b_
      have HB5 := HB_
      have HQ5 := HQ_
      have HZ5 := HZ_
      have HS5 := HS_
      have HR5 := HR_
      clear HB_ HQ_ HZ_ HS_ HR_
      cases bn
      case false =>
        go_upto_region 8 with fail
        go_wp2_with fail
        refine (once_any 30 (by omega) (by omega) HR5).mono ?_
        rintro e y1 ⟨bo, q8, rfl, R_, b_⟩
        have HB_ : Hid (Below w.heap.size w y1) := HB5.out.trans (b_.below zr HB5.out.size)
        have HQ_ : Hid (KpQ B w4.heap.size w4 y1) := fun g g1 g2 => (b_.2.2.2.2 g (Nat.lt_of_lt_of_le g2 HZ5.out) (by omega)).trans (HQ5.out g g1 g2)
        have HZ_ : Hid (w4.heap.size ≤ y1.heap.size) := Nat.le_trans HZ5.out b_.2.2.2.1
        have HS_ : Hid (StkJ w4.heap.size y1 (.slice s5 k5 c5) k5 FI) := HS5.out.beside b_ zr4
        have HR_ : Hid (Rd y1 r s n c q8) := R_
        clear HB5 HQ5 HZ5 HS5 HR5 R_ b_
        have HB5 := HB_
        have HQ5 := HQ_
        have HZ5 := HZ_
        have HS5 := HS_
        have HR5 := HR_
        clear HB_ HQ_ HZ_ HS_ HR_
        cases bo
        · go_wp2
          obtain ⟨X9, K9, V9, r9, k9⟩ := (HG.out.same (W' := y1) (fun g g1 g2 => HQ5.out g g1 g2)).row
          refine bodyPost_ret (v := .tuple #[.slice t m cap, .int .i64 cr, .slice s5 k5 c5]) (by simp [results, Tryd.results8, go_sem]) rfl ?_
          exact ⟨t, m, cap, cr, s5, k5, c5, X9, K9, V9, FI, rfl, m41, by omega, k9, r9, HS5.out.row, HB5.out⟩
        · have zz := HZ5.out
          go_wp2_with (at_builtin; refine list_pushJ w4.heap.size (.slice s5 k5 c5) k5 FI (.tmp 57) (.tmp 58) (by rfl) (by rfl) (by rfl) (by rfl) HS5.out zz (by omega) ?_; intro s9 c9 w9 l9 b9; have Hl9 : Hid (StkJ w4.heap.size w9 (.slice s9 (k5 + 1) c9) (k5 + 1) (puJ FI k5 0)) := l9; have Hb9 : Hid (Below w4.heap.size y1 w9) := b9; clear l9 b9)
          obtain ⟨X9, K9, V9, r9, k9⟩ := (HG.out.same (W' := w9) (fun g g1 g2 => (Hb9.out.block g g2).trans (HQ5.out g g1 g2))).row
          refine bodyPost_ret (v := .tuple #[.slice t m cap, .int .i64 cr, .slice s9 (k5 + 1) c9]) (by simp [results, Tryd.results8, go_sem]) rfl ?_
          exact ⟨t, m, cap, cr, s9, (k5 + 1), c9, X9, K9, V9, _, rfl, m41, by omega, k9, r9, Hl9.out.row, (HB5.out.trans (Hb9.out.mono zw4))⟩
      case true =>
        go_upto_region 6 with fail
        go_wp2_with fail
        refine (below_any (k5 : Int) HR5).mono ?_
        rintro e y3 ⟨ii, q7, rfl, ii0, -, ii1, R_, b_⟩
        have HB_ : Hid (Below w.heap.size w y3) := HB5.out.trans (b_.below zr HB5.out.size)
        have HQ_ : Hid (KpQ B w4.heap.size w4 y3) := fun g g1 g2 => (b_.2.2.2.2 g (Nat.lt_of_lt_of_le g2 HZ5.out) (by omega)).trans (HQ5.out g g1 g2)
        have HZ_ : Hid (w4.heap.size ≤ y3.heap.size) := Nat.le_trans HZ5.out b_.2.2.2.1
        have HS_ : Hid (StkJ w4.heap.size y3 (.slice s5 k5 c5) k5 FI) := HS5.out.beside b_ zr4
        have HR_ : Hid (Rd y3 r s n c q7) := R_
        clear HB5 HQ5 HZ5 HS5 HR5 R_ b_
        have HB5 := HB_
        have HQ5 := HQ_
        have HZ5 := HZ_
        have HS5 := HS_
        have HR5 := HR_
        clear HB_ HQ_ HZ_ HS_ HR_
        obtain ⟨i, rfl⟩ : ∃ i : Nat, ii = (i : Int) := ⟨ii.toNat, by omega⟩
        have hik : i < k5 := by omega
        have iki : (i : Int) < (k5 : Int) := by omega
        obtain ⟨g, rfl, zg4, zgs, gfz, gce⟩ : ∃ g, s5 = some ⟨g, 0, none⟩ ∧ w4.heap.size ≤ g ∧ g < y3.heap.size ∧ (∀ o, y3.frozen? ⟨g, o, none⟩ = false) ∧ y3.cell? ⟨g, i, none⟩ = some (.int .i64 (FI i)) := by
          rcases HS5.out with ⟨_, z⟩ | ⟨g, cap', e, h1, h2, h3, h4, h5, h6⟩
          · omega
          · cases e
            exact ⟨g, rfl, h1, h2, h4, h5 i hik⟩
        have hbi := HF5.out i hik
        obtain ⟨Bi, hBi⟩ : ∃ z, FI i = z := ⟨_, rfl⟩
        rw [hBi] at hbi gce
        obtain ⟨mx, hmx⟩ : ∃ z : Int, max (-1) (Bi - 3) = z := ⟨_, rfl⟩
        have hmx2 : -1 ≤ mx ∧ mx ≤ Bi + 9 := by rw [← hmx]; omega
        have HMX : Hid (max (-1) (Bi - 3) = mx) := hmx
        have HGC : Hid (y3.cell? ⟨g, i, none⟩ = some (.int .i64 Bi) ∧ g < y3.heap.size ∧ y3.frozen? ⟨g, i, none⟩ = false) := ⟨gce, zgs, gfz i⟩
        clear hmx hBi gce gfz zgs ii0 ii1
        go_upto_region 7 with fail
        refine wp_region_held_drew (S := fun w' => g < w'.heap.size ∧ w'.frozen? ⟨g, i, none⟩ = false) (by kernel_rfl) ?_ (fun hHeld => ?_)
        · exact ⟨HGC.out.2.1, HGC.out.2.2⟩
        obtain ⟨v0, hv0⟩ : ∃ z, z = y3.drew := ⟨_, rfl⟩
        try rw [← hv0] at hHeld
        rw [← hv0]
        have bv0 : Below y3.heap.size y3 v0 := by rw [hv0]; exact Below.drew (Below.refl _ _)
        clear hv0
        have HGC0 : Hid (v0.cell? ⟨g, i, none⟩ = some (.int .i64 Bi) ∧ g < v0.heap.size ∧ v0.frozen? ⟨g, i, none⟩ = false) := ⟨(bv0.cell (p := ⟨g, i, none⟩) HGC.out.2.1).trans HGC.out.1, Nat.lt_of_lt_of_le HGC.out.2.1 bv0.size, (bv0.frozen (p := ⟨g, i, none⟩) HGC.out.2.1).trans HGC.out.2.2⟩
        have HB6 : Hid (Below w.heap.size w v0) := HB5.out.trans (bv0.mono HB5.out.size)
        have HQ6 : Hid (KpQ B w4.heap.size w4 v0) := fun g g1 g2 => (bv0.block g (Nat.lt_of_lt_of_le g2 HZ5.out)).trans (HQ5.out g g1 g2)
        have HZ6 : Hid (w4.heap.size ≤ v0.heap.size) := Nat.le_trans HZ5.out bv0.size
        have HS6 : Hid (StkJ w4.heap.size v0 (.slice (some ⟨g, 0, none⟩) k5 c5) k5 FI) := HS5.out.below bv0
        have HR6 : Hid (Rd v0 r s n c q7) := HR5.out.below bv0
        clear HB5 HQ5 HZ5 HS5 HR5 bv0 HGC
        refine wpAnyH_take (i := 0) (v := .slice (some ⟨g, 0, none⟩) k5 c5) rfl (by kernel_rfl) (by kernel_rfl) (by kernel_rfl) (fun _ _ _ h => h) (Or.inl ⟨by kernel_rfl, ?_⟩) hHeld ?_
        · intro w' hSw
          obtain ⟨hz1, hf1⟩ := hSw
          first | (go_simp; done) | (go_simp; with_reducible rfl) | (go_simp; rw [IntKind.wrap_i64]; omega) | (go_simp; omega)
        simp only [Act.put, List.setIfInBounds_toArray, List.set_cons_zero, List.set_cons_succ]
        refine wpAnyH_take (i := 1) (v := .int .i64 (i : Int)) rfl (by kernel_rfl) (by kernel_rfl) (by kernel_rfl) (fun _ _ _ h => h) (Or.inl ⟨by kernel_rfl, ?_⟩) hHeld ?_
        · intro w' hSw
          obtain ⟨hz1, hf1⟩ := hSw
          first | (go_simp; done) | (go_simp; with_reducible rfl) | (go_simp; rw [IntKind.wrap_i64]; omega) | (go_simp; omega)
        simp only [Act.put, List.setIfInBounds_toArray, List.set_cons_zero, List.set_cons_succ]
        refine wpAnyH_take (i := 2) (v := .pointer (some ⟨r, 0, none⟩)) rfl (by kernel_rfl) (by kernel_rfl) (by kernel_rfl) (fun _ _ _ h => h) (Or.inl ⟨by kernel_rfl, ?_⟩) hHeld ?_
        · intro w' hSw
          obtain ⟨hz1, hf1⟩ := hSw
          first | (go_simp; done) | (go_simp; with_reducible rfl) | (go_simp; rw [IntKind.wrap_i64]; omega) | (go_simp; omega)
        simp only [Act.put, List.setIfInBounds_toArray, List.set_cons_zero, List.set_cons_succ]
        refine wpAnyH_take (i := 3) (v := .slice (some ⟨g, 0, none⟩) k5 c5) rfl (by kernel_rfl) (by kernel_rfl) (by kernel_rfl) (fun _ _ _ h => h) (Or.inl ⟨by kernel_rfl, ?_⟩) hHeld ?_
        · intro w' hSw
          obtain ⟨hz1, hf1⟩ := hSw
          first | (go_simp; done) | (go_simp; with_reducible rfl) | (go_simp; rw [IntKind.wrap_i64]; omega) | (go_simp; omega)
        simp only [Act.put, List.setIfInBounds_toArray, List.set_cons_zero, List.set_cons_succ]
        refine wpAnyH_take (i := 4) (v := .int .i64 (i : Int)) rfl (by kernel_rfl) (by kernel_rfl) (by kernel_rfl) (fun _ _ _ h => h) (Or.inl ⟨by kernel_rfl, ?_⟩) hHeld ?_
        · intro w' hSw
          obtain ⟨hz1, hf1⟩ := hSw
          first | (go_simp; done) | (go_simp; with_reducible rfl) | (go_simp; rw [IntKind.wrap_i64]; omega) | (go_simp; omega)
        simp only [Act.put, List.setIfInBounds_toArray, List.set_cons_zero, List.set_cons_succ]
        refine wpAnyH_take (i := 5) (v := .pointer (some ⟨g, i, none⟩)) rfl (by kernel_rfl) (by kernel_rfl) (by kernel_rfl) (fun _ _ _ h => h) (Or.inl ⟨by kernel_rfl, ?_⟩) hHeld ?_
        · intro w' hSw
          obtain ⟨hz1, hf1⟩ := hSw
          first | (go_simp; done) | (go_simp; with_reducible rfl) | (go_simp; rw [IntKind.wrap_i64]; omega) | (go_simp; omega)
        simp only [Act.put, List.setIfInBounds_toArray, List.set_cons_zero, List.set_cons_succ]
        refine wpAnyH_take (i := 9) (v := .slice (some ⟨g, 0, none⟩) k5 c5) rfl (by kernel_rfl) (by kernel_rfl) (by kernel_rfl) (fun _ _ _ h => h) (Or.inl ⟨by kernel_rfl, ?_⟩) hHeld ?_
        · intro w' hSw
          obtain ⟨hz1, hf1⟩ := hSw
          first | (go_simp; done) | (go_simp; with_reducible rfl) | (go_simp; rw [IntKind.wrap_i64]; omega) | (go_simp; omega)
        simp only [Act.put, List.setIfInBounds_toArray, List.set_cons_zero, List.set_cons_succ]
        refine wpAnyH_take (i := 10) (v := .int .i64 (i : Int)) rfl (by kernel_rfl) (by kernel_rfl) (by kernel_rfl) (fun _ _ _ h => h) (Or.inl ⟨by kernel_rfl, ?_⟩) hHeld ?_
        · intro w' hSw
          obtain ⟨hz1, hf1⟩ := hSw
          first | (go_simp; done) | (go_simp; with_reducible rfl) | (go_simp; rw [IntKind.wrap_i64]; omega) | (go_simp; omega)
        simp only [Act.put, List.setIfInBounds_toArray, List.set_cons_zero, List.set_cons_succ]
        refine wpAnyH_take (i := 11) (v := .pointer (some ⟨g, i, none⟩)) rfl (by kernel_rfl) (by kernel_rfl) (by kernel_rfl) (fun _ _ _ h => h) (Or.inl ⟨by kernel_rfl, ?_⟩) hHeld ?_
        · intro w' hSw
          obtain ⟨hz1, hf1⟩ := hSw
          first | (go_simp; done) | (go_simp; with_reducible rfl) | (go_simp; rw [IntKind.wrap_i64]; omega) | (go_simp; omega)
        simp only [Act.put, List.setIfInBounds_toArray, List.set_cons_zero, List.set_cons_succ]
        refine wpAnyH_ready (rs := [6, 12]) (by kernel_rfl) (by simp) ?_
        refine (AllReadyH.cons rfl (fun KK hK => ?_) (AllReadyH.cons rfl (fun KK hK => ?_) AllReadyH.nil))
        · have hl_ := HGC0.out.1
          have hz_ := HGC0.out.2.1
          go_simp
          clear hl_ hz_
          refine hK.out _ _ (⟨HGC0.out.2.1, HGC0.out.2.2⟩) (fun hHeld => ?_)
          clear hK KK
          refine wpAnyH_take (i := 7) (v := .int .i64 (Bi - 3)) rfl (by kernel_rfl) (by kernel_rfl) (by kernel_rfl) (fun _ _ _ h => h) (Or.inl ⟨by kernel_rfl, ?_⟩) hHeld ?_
          · intro w' hSw
            obtain ⟨hz1, hf1⟩ := hSw
            first | (go_simp; done) | (go_simp; with_reducible rfl) | (go_simp; rw [IntKind.wrap_i64]; omega) | (go_simp; omega)
          simp only [Act.put, List.setIfInBounds_toArray, List.set_cons_zero, List.set_cons_succ]
          refine wpAnyH_take (i := 8) (v := .int .i64 mx) rfl (by kernel_rfl) (by kernel_rfl) (by kernel_rfl) (fun _ _ _ h => h) (Or.inl ⟨by kernel_rfl, ?_⟩) hHeld ?_
          · intro w' hSw
            obtain ⟨hz1, hf1⟩ := hSw
            (go_simp; exact HMX.out)
          simp only [Act.put, List.setIfInBounds_toArray, List.set_cons_zero, List.set_cons_succ]
          refine wpAnyH_ready (rs := [12]) (by kernel_rfl) (by simp) ?_
          refine (AllReadyH.cons rfl (fun KK hK => ?_) AllReadyH.nil)
          have hl_ := HGC0.out.1
          have hz_ := HGC0.out.2.1
          go_simp
          clear hl_ hz_
          refine hK.out _ _ (⟨HGC0.out.2.1, HGC0.out.2.2⟩) (fun hHeld => ?_)
          clear hK KK
          refine wpAnyH_take (i := 13) (v := .int .i64 (Bi + 9)) rfl (by kernel_rfl) (by kernel_rfl) (by kernel_rfl) (fun _ _ _ h => h) (Or.inl ⟨by kernel_rfl, ?_⟩) hHeld ?_
          · intro w' hSw
            obtain ⟨hz1, hf1⟩ := hSw
            first | (go_simp; done) | (go_simp; with_reducible rfl) | (go_simp; rw [IntKind.wrap_i64]; omega) | (go_simp; omega)
          simp only [Act.put, List.setIfInBounds_toArray, List.set_cons_zero, List.set_cons_succ]
          refine wpAnyH_ready (rs := [14]) (by kernel_rfl) (by simp) ?_
          refine (AllReadyH.cons rfl (fun KK hK => ?_) AllReadyH.nil)
          go_simp
          go_wp2_with (first | (go_at_call 28; refine (near_any mx (Bi + 9) (by omega) (by omega) (by omega) HR6).mono ?_; rintro e v0_3 ⟨x, q9, rfl, -, -, R_, b_⟩))
          have HB_ : Hid (Below w.heap.size w v0_3) := HB6.out.trans (b_.below zr HB6.out.size)
          have HQ_ : Hid (KpQ B w4.heap.size w4 v0_3) := fun g g1 g2 => (b_.2.2.2.2 g (Nat.lt_of_lt_of_le g2 HZ6.out) (by omega)).trans (HQ6.out g g1 g2)
          have HZ_ : Hid (w4.heap.size ≤ v0_3.heap.size) := Nat.le_trans HZ6.out b_.2.2.2.1
          have HS_ : Hid (StkJ w4.heap.size v0_3 (.slice (some ⟨g, 0, none⟩) k5 c5) k5 FI) := HS6.out.beside b_ zr4
          have HR_ : Hid (Rd v0_3 r s n c q9) := R_
          have HC_ : Hid (g < v0_3.heap.size ∧ v0_3.frozen? ⟨g, i, none⟩ = false ∧ (v0_3.cell? ⟨g, i, none⟩).isSome = true) := ⟨Nat.lt_of_lt_of_le HGC0.out.2.1 b_.2.2.2.1, (b_.frozen (p := ⟨g, i, none⟩) HGC0.out.2.1 (by simp only; omega)).trans HGC0.out.2.2, by rw [b_.cell (p := ⟨g, i, none⟩) HGC0.out.2.1 (by simp only; omega), HGC0.out.1]; rfl⟩
          clear HB6 HQ6 HZ6 HS6 HR6 R_ b_ HGC0
          refine hK.out _ _ (⟨HC_.out.1, HC_.out.2.1⟩) (fun hHeld => ?_)
          clear hK KK
          refine wpAnyH_take (i := 15) (v := .pointer (some ⟨g, i, none⟩)) rfl (by kernel_rfl) (by kernel_rfl) (by kernel_rfl) (fun _ _ _ h => h) (Or.inl ⟨by kernel_rfl, ?_⟩) hHeld ?_
          · intro w' hSw
            obtain ⟨hz1, hf1⟩ := hSw
            first | (go_simp; done) | (go_simp; with_reducible rfl) | (go_simp; rw [IntKind.wrap_i64]; omega) | (go_simp; omega)
          simp only [Act.put, List.setIfInBounds_toArray, List.set_cons_zero, List.set_cons_succ]
          refine wpAnyH_ready (rs := [16]) (by kernel_rfl) (by simp) ?_
          refine (AllReadyH.cons rfl (fun KK hK => ?_) AllReadyH.nil)
          obtain ⟨u_, hu_⟩ := Option.isSome_iff_exists.1 HC_.out.2.2
          have hf_ := HC_.out.2.1
          have hz_ := HC_.out.1
          go_simp
          clear hu_ hf_ hz_
          obtain ⟨v0_4, hv_⟩ : ∃ z, z = v0_3.setCell ⟨g, i, none⟩ (.int .i64 x) := ⟨_, rfl⟩
          rw [← hv_]
          have bs_ : Beside g v0_3 v0_4 := by rw [hv_]; exact Beside.setCell g _ i _
          have HB5 : Hid (Below w.heap.size w v0_4) := HB_.out.trans (bs_.below (by omega) HB_.out.size)
          have HQ5 : Hid (KpQ B w4.heap.size w4 v0_4) := fun g' g1 g2 => (bs_.2.2.2.2 g' (Nat.lt_of_lt_of_le g2 HZ_.out) (by omega)).trans (HQ_.out g' g1 g2)
          have HZ5 : Hid (w4.heap.size ≤ v0_4.heap.size) := Nat.le_trans HZ_.out bs_.2.2.2.1
          have HS5 : Hid (StkJ w4.heap.size v0_4 (.slice (some ⟨g, 0, none⟩) k5 c5) k5 (updJ FI i x)) := by show StkJ _ _ _ _ _; rw [hv_]; exact HS_.out.set hik x
          have HR5 : Hid (Rd v0_4 r s n c q9) := Rd.below' HR_.out (bs_.below (by omega) (by have := HR_.out.1; omega))
          have HC9 : Hid (g < v0_4.heap.size ∧ v0_4.frozen? ⟨g, i, none⟩ = false) := ⟨Nat.lt_of_lt_of_le HC_.out.1 bs_.2.2.2.1, by rw [hv_]; simp [go_sem, HC_.out.2.1]⟩
          clear HB_ HQ_ HZ_ HS_ HR_ HC_ hv_ bs_
          refine hK.out _ _ (HC9.out) (fun hHeld => ?_)
          clear hK KK
          refine wpAnyH_done (by kernel_rfl) ?_ _
          clear hHeld
          clear HC9
          go_upto_region 8 with fail
          go_wp2_with fail
          refine (once_any 30 (by omega) (by omega) HR5).mono ?_
          rintro e y1 ⟨bo, q8, rfl, R_, b_⟩
          have HB_ : Hid (Below w.heap.size w y1) := HB5.out.trans (b_.below zr HB5.out.size)
          have HQ_ : Hid (KpQ B w4.heap.size w4 y1) := fun g g1 g2 => (b_.2.2.2.2 g (Nat.lt_of_lt_of_le g2 HZ5.out) (by omega)).trans (HQ5.out g g1 g2)
          have HZ_ : Hid (w4.heap.size ≤ y1.heap.size) := Nat.le_trans HZ5.out b_.2.2.2.1
          have HS_ : Hid (StkJ w4.heap.size y1 (.slice (some ⟨g, 0, none⟩) k5 c5) k5 (updJ FI i x)) := HS5.out.beside b_ zr4
          have HR_ : Hid (Rd y1 r s n c q8) := R_
          clear HB5 HQ5 HZ5 HS5 HR5 R_ b_
          have HB5 := HB_
          have HQ5 := HQ_
          have HZ5 := HZ_
          have HS5 := HS_
          have HR5 := HR_
          clear HB_ HQ_ HZ_ HS_ HR_
          cases bo
          · go_wp2
            obtain ⟨X9, K9, V9, r9, k9⟩ := (HG.out.same (W' := y1) (fun g g1 g2 => HQ5.out g g1 g2)).row
            refine bodyPost_ret (v := .tuple #[.slice t m cap, .int .i64 cr, .slice (some ⟨g, 0, none⟩) k5 c5]) (by simp [results, Tryd.results8, go_sem]) rfl ?_
            exact ⟨t, m, cap, cr, (some ⟨g, 0, none⟩), k5, c5, X9, K9, V9, (updJ FI i x), rfl, m41, by omega, k9, r9, HS5.out.row, HB5.out⟩
          · have zz := HZ5.out
            go_wp2_with (at_builtin; refine list_pushJ w4.heap.size (.slice (some ⟨g, 0, none⟩) k5 c5) k5 (updJ FI i x) (.tmp 57) (.tmp 58) (by rfl) (by rfl) (by rfl) (by rfl) HS5.out zz (by omega) ?_; intro s9 c9 w9 l9 b9; have Hl9 : Hid (StkJ w4.heap.size w9 (.slice s9 (k5 + 1) c9) (k5 + 1) (puJ (updJ FI i x) k5 0)) := l9; have Hb9 : Hid (Below w4.heap.size y1 w9) := b9; clear l9 b9)
            obtain ⟨X9, K9, V9, r9, k9⟩ := (HG.out.same (W' := w9) (fun g g1 g2 => (Hb9.out.block g g2).trans (HQ5.out g g1 g2))).row
            refine bodyPost_ret (v := .tuple #[.slice t m cap, .int .i64 cr, .slice s9 (k5 + 1) c9]) (by simp [results, Tryd.results8, go_sem]) rfl ?_
            exact ⟨t, m, cap, cr, s9, (k5 + 1), c9, X9, K9, V9, _, rfl, m41, by omega, k9, r9, Hl9.out.row, (HB5.out.trans (Hb9.out.mono zw4))⟩
        · have hl_ := HGC0.out.1
          have hz_ := HGC0.out.2.1
          go_simp
          clear hl_ hz_
          refine hK.out _ _ (⟨HGC0.out.2.1, HGC0.out.2.2⟩) (fun hHeld => ?_)
          clear hK KK
          refine wpAnyH_take (i := 13) (v := .int .i64 (Bi + 9)) rfl (by kernel_rfl) (by kernel_rfl) (by kernel_rfl) (fun _ _ _ h => h) (Or.inl ⟨by kernel_rfl, ?_⟩) hHeld ?_
          · intro w' hSw
            obtain ⟨hz1, hf1⟩ := hSw
            first | (go_simp; done) | (go_simp; with_reducible rfl) | (go_simp; rw [IntKind.wrap_i64]; omega) | (go_simp; omega)
          simp only [Act.put, List.setIfInBounds_toArray, List.set_cons_zero, List.set_cons_succ]
          refine wpAnyH_ready (rs := [6]) (by kernel_rfl) (by simp) ?_
          refine (AllReadyH.cons rfl (fun KK hK => ?_) AllReadyH.nil)
          have hl_ := HGC0.out.1
          have hz_ := HGC0.out.2.1
          go_simp
          clear hl_ hz_
          refine hK.out _ _ (⟨HGC0.out.2.1, HGC0.out.2.2⟩) (fun hHeld => ?_)
          clear hK KK
          refine wpAnyH_take (i := 7) (v := .int .i64 (Bi - 3)) rfl (by kernel_rfl) (by kernel_rfl) (by kernel_rfl) (fun _ _ _ h => h) (Or.inl ⟨by kernel_rfl, ?_⟩) hHeld ?_
          · intro w' hSw
            obtain ⟨hz1, hf1⟩ := hSw
            first | (go_simp; done) | (go_simp; with_reducible rfl) | (go_simp; rw [IntKind.wrap_i64]; omega) | (go_simp; omega)
          simp only [Act.put, List.setIfInBounds_toArray, List.set_cons_zero, List.set_cons_succ]
          refine wpAnyH_take (i := 8) (v := .int .i64 mx) rfl (by kernel_rfl) (by kernel_rfl) (by kernel_rfl) (fun _ _ _ h => h) (Or.inl ⟨by kernel_rfl, ?_⟩) hHeld ?_
          · intro w' hSw
            obtain ⟨hz1, hf1⟩ := hSw
            (go_simp; exact HMX.out)
          simp only [Act.put, List.setIfInBounds_toArray, List.set_cons_zero, List.set_cons_succ]
          refine wpAnyH_ready (rs := [14]) (by kernel_rfl) (by simp) ?_
          refine (AllReadyH.cons rfl (fun KK hK => ?_) AllReadyH.nil)
          go_simp
          go_wp2_with (first | (go_at_call 28; refine (near_any mx (Bi + 9) (by omega) (by omega) (by omega) HR6).mono ?_; rintro e v0_7 ⟨x, q9, rfl, -, -, R_, b_⟩))
          have HB_ : Hid (Below w.heap.size w v0_7) := HB6.out.trans (b_.below zr HB6.out.size)
          have HQ_ : Hid (KpQ B w4.heap.size w4 v0_7) := fun g g1 g2 => (b_.2.2.2.2 g (Nat.lt_of_lt_of_le g2 HZ6.out) (by omega)).trans (HQ6.out g g1 g2)
          have HZ_ : Hid (w4.heap.size ≤ v0_7.heap.size) := Nat.le_trans HZ6.out b_.2.2.2.1
          have HS_ : Hid (StkJ w4.heap.size v0_7 (.slice (some ⟨g, 0, none⟩) k5 c5) k5 FI) := HS6.out.beside b_ zr4
          have HR_ : Hid (Rd v0_7 r s n c q9) := R_
          have HC_ : Hid (g < v0_7.heap.size ∧ v0_7.frozen? ⟨g, i, none⟩ = false ∧ (v0_7.cell? ⟨g, i, none⟩).isSome = true) := ⟨Nat.lt_of_lt_of_le HGC0.out.2.1 b_.2.2.2.1, (b_.frozen (p := ⟨g, i, none⟩) HGC0.out.2.1 (by simp only; omega)).trans HGC0.out.2.2, by rw [b_.cell (p := ⟨g, i, none⟩) HGC0.out.2.1 (by simp only; omega), HGC0.out.1]; rfl⟩
          clear HB6 HQ6 HZ6 HS6 HR6 R_ b_ HGC0
          refine hK.out _ _ (⟨HC_.out.1, HC_.out.2.1⟩) (fun hHeld => ?_)
          clear hK KK
          refine wpAnyH_take (i := 15) (v := .pointer (some ⟨g, i, none⟩)) rfl (by kernel_rfl) (by kernel_rfl) (by kernel_rfl) (fun _ _ _ h => h) (Or.inl ⟨by kernel_rfl, ?_⟩) hHeld ?_
          · intro w' hSw
            obtain ⟨hz1, hf1⟩ := hSw
            first | (go_simp; done) | (go_simp; with_reducible rfl) | (go_simp; rw [IntKind.wrap_i64]; omega) | (go_simp; omega)
          simp only [Act.put, List.setIfInBounds_toArray, List.set_cons_zero, List.set_cons_succ]
          refine wpAnyH_ready (rs := [16]) (by kernel_rfl) (by simp) ?_
          refine (AllReadyH.cons rfl (fun KK hK => ?_) AllReadyH.nil)
          obtain ⟨u_, hu_⟩ := Option.isSome_iff_exists.1 HC_.out.2.2
          have hf_ := HC_.out.2.1
          have hz_ := HC_.out.1
          go_simp
          clear hu_ hf_ hz_
          obtain ⟨v0_8, hv_⟩ : ∃ z, z = v0_7.setCell ⟨g, i, none⟩ (.int .i64 x) := ⟨_, rfl⟩
          rw [← hv_]
          have bs_ : Beside g v0_7 v0_8 := by rw [hv_]; exact Beside.setCell g _ i _
          have HB5 : Hid (Below w.heap.size w v0_8) := HB_.out.trans (bs_.below (by omega) HB_.out.size)
          have HQ5 : Hid (KpQ B w4.heap.size w4 v0_8) := fun g' g1 g2 => (bs_.2.2.2.2 g' (Nat.lt_of_lt_of_le g2 HZ_.out) (by omega)).trans (HQ_.out g' g1 g2)
          have HZ5 : Hid (w4.heap.size ≤ v0_8.heap.size) := Nat.le_trans HZ_.out bs_.2.2.2.1
          have HS5 : Hid (StkJ w4.heap.size v0_8 (.slice (some ⟨g, 0, none⟩) k5 c5) k5 (updJ FI i x)) := by show StkJ _ _ _ _ _; rw [hv_]; exact HS_.out.set hik x
          have HR5 : Hid (Rd v0_8 r s n c q9) := Rd.below' HR_.out (bs_.below (by omega) (by have := HR_.out.1; omega))
          have HC9 : Hid (g < v0_8.heap.size ∧ v0_8.frozen? ⟨g, i, none⟩ = false) := ⟨Nat.lt_of_lt_of_le HC_.out.1 bs_.2.2.2.1, by rw [hv_]; simp [go_sem, HC_.out.2.1]⟩
          clear HB_ HQ_ HZ_ HS_ HR_ HC_ hv_ bs_
          refine hK.out _ _ (HC9.out) (fun hHeld => ?_)
          clear hK KK
          refine wpAnyH_done (by kernel_rfl) ?_ _
          clear hHeld
          clear HC9
          go_upto_region 8 with fail
          go_wp2_with fail
          refine (once_any 30 (by omega) (by omega) HR5).mono ?_
          rintro e y1 ⟨bo, q8, rfl, R_, b_⟩
          have HB_ : Hid (Below w.heap.size w y1) := HB5.out.trans (b_.below zr HB5.out.size)
          have HQ_ : Hid (KpQ B w4.heap.size w4 y1) := fun g g1 g2 => (b_.2.2.2.2 g (Nat.lt_of_lt_of_le g2 HZ5.out) (by omega)).trans (HQ5.out g g1 g2)
          have HZ_ : Hid (w4.heap.size ≤ y1.heap.size) := Nat.le_trans HZ5.out b_.2.2.2.1
          have HS_ : Hid (StkJ w4.heap.size y1 (.slice (some ⟨g, 0, none⟩) k5 c5) k5 (updJ FI i x)) := HS5.out.beside b_ zr4
          have HR_ : Hid (Rd y1 r s n c q8) := R_
          clear HB5 HQ5 HZ5 HS5 HR5 R_ b_
          have HB5 := HB_
          have HQ5 := HQ_
          have HZ5 := HZ_
          have HS5 := HS_
          have HR5 := HR_
          clear HB_ HQ_ HZ_ HS_ HR_
          cases bo
          · go_wp2
            obtain ⟨X9, K9, V9, r9, k9⟩ := (HG.out.same (W' := y1) (fun g g1 g2 => HQ5.out g g1 g2)).row
            refine bodyPost_ret (v := .tuple #[.slice t m cap, .int .i64 cr, .slice (some ⟨g, 0, none⟩) k5 c5]) (by simp [results, Tryd.results8, go_sem]) rfl ?_
            exact ⟨t, m, cap, cr, (some ⟨g, 0, none⟩), k5, c5, X9, K9, V9, (updJ FI i x), rfl, m41, by omega, k9, r9, HS5.out.row, HB5.out⟩
          · have zz := HZ5.out
            go_wp2_with (at_builtin; refine list_pushJ w4.heap.size (.slice (some ⟨g, 0, none⟩) k5 c5) k5 (updJ FI i x) (.tmp 57) (.tmp 58) (by rfl) (by rfl) (by rfl) (by rfl) HS5.out zz (by omega) ?_; intro s9 c9 w9 l9 b9; have Hl9 : Hid (StkJ w4.heap.size w9 (.slice s9 (k5 + 1) c9) (k5 + 1) (puJ (updJ FI i x) k5 0)) := l9; have Hb9 : Hid (Below w4.heap.size y1 w9) := b9; clear l9 b9)
            obtain ⟨X9, K9, V9, r9, k9⟩ := (HG.out.same (W' := w9) (fun g g1 g2 => (Hb9.out.block g g2).trans (HQ5.out g g1 g2))).row
            refine bodyPost_ret (v := .tuple #[.slice t m cap, .int .i64 cr, .slice s9 (k5 + 1) c9]) (by simp [results, Tryd.results8, go_sem]) rfl ?_
            exact ⟨t, m, cap, cr, s9, (k5 + 1), c9, X9, K9, V9, _, rfl, m41, by omega, k9, r9, Hl9.out.row, (HB5.out.trans (Hb9.out.mono zw4))⟩
end Go.Proofs.YtffjhbgnhnnfiaaDoor
