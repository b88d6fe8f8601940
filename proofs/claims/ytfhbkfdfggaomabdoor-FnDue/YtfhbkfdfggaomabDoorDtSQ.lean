/-
What is proved: what the specification's DueTests answers.
-/
import Derived.Test.YtfhbkfdfggaomabDoorDtIQ
import Derived.Deep.AppendLies
import Derived.Deep.RegionHeldLaw
import Derived.Deep.DeepCutAuto
import Derived.BigQuiet
namespace Go.Proofs.YtfhbkfdfggaomabDoor
set_option maxRecDepth 40000
open Go.ChangeShapes Go.WideShapes Go.ChangeAt Go.RowKit
set_option linter.unusedVariables false
set_option linter.unusedSimpArgs false

/-- What is taken so far, and what stands in the list of how far each is beyond. -/
def DueX (n : Nat) (V : Nat → Int × Int) (now : Int) (m : Nat) (W G : Nat → Int) : Prop := SortS (ltD V now) W 0 m ∧ (∀ i, i < m → ∃ j : Nat, j < n ∧ W i = (j : Int) ∧ 0 ≤ byd V now j) ∧ (∀ j : Nat, j < n → (G j = byd V now j ∧ ∀ i, i < m → W i ≠ (j : Int)) ∨ (G j = -1 ∧ ∃ i, i < m ∧ W i = (j : Int))) ∧ ∀ i, i < m → ∀ j : Nat, j < n → 0 ≤ byd V now j → (∀ x, x < m → W x ≠ (j : Int)) → ltD V now (W i) (j : Int)
theorem dueX_zero (n : Nat) (V : Nat → Int × Int) (now : Int) (W : Nat → Int) : DueX n V now 0 W (byd V now) := ⟨fun i j _ _ h => by omega, fun i h => by omega, fun j _ => Or.inl ⟨rfl, fun i h => by omega⟩, fun i h => by omega⟩
/-- The first of the greatest among the first k. -/
def BstT (G : Nat → Int) (k : Nat) (a : Int) : Prop := (a = -1 ∧ ∀ j, j < k → G j < 0) ∨ ∃ t : Nat, t < k ∧ a = (t : Int) ∧ 0 ≤ G t ∧ ∀ j, j < k → 0 ≤ G j → (G j < G t ∨ (G j = G t ∧ t ≤ j))
theorem bst_zero (G : Nat → Int) : BstT G 0 (-1) := Or.inl ⟨rfl, fun j h => by omega⟩
theorem bst_low {G : Nat → Int} {k : Nat} {a : Int} (h : BstT G k a) (hk : G k < 0) : BstT G (k + 1) a := by
  rcases h with ⟨h1, h2⟩ | ⟨t, h1, h2, h3, h4⟩
  · refine Or.inl ⟨h1, fun j hj => ?_⟩
    by_cases q : j = k
    · rw [q]; exact hk
    · exact h2 j (by omega)
  · refine Or.inr ⟨t, by omega, h2, h3, fun j hj hg => ?_⟩
    by_cases q : j = k
    · rw [q] at hg; omega
    · exact h4 j (by omega) hg
theorem bst_first {G : Nat → Int} {k : Nat} (h : ∀ j, j < k → G j < 0) (hk : 0 ≤ G k) : BstT G (k + 1) (k : Int) := by
  refine Or.inr ⟨k, by omega, rfl, hk, fun j hj hg => ?_⟩
  by_cases q : j = k
  · rw [q]; exact Or.inr ⟨rfl, Nat.le_refl _⟩
  · have := h j (by omega); omega
theorem bst_take {G : Nat → Int} {k t : Nat} (h : ∀ j, j < k → 0 ≤ G j → (G j < G t ∨ (G j = G t ∧ t ≤ j))) (hk : 0 ≤ G k) (h2 : G t < G k) : BstT G (k + 1) (k : Int) := by
  refine Or.inr ⟨k, by omega, rfl, hk, fun j hj hg => ?_⟩
  by_cases q : j = k
  · rw [q]; exact Or.inr ⟨rfl, Nat.le_refl _⟩
  · rcases h j (by omega) hg with z | z <;> omega
theorem bst_keep {G : Nat → Int} {k t : Nat} (ht : t < k) (h0 : 0 ≤ G t) (h : ∀ j, j < k → 0 ≤ G j → (G j < G t ∨ (G j = G t ∧ t ≤ j))) (h2 : G k ≤ G t) : BstT G (k + 1) (t : Int) := by
  refine Or.inr ⟨t, by omega, rfl, h0, fun j hj hg => ?_⟩
  by_cases q : j = k
  · rw [q]; omega
  · exact h j (by omega) hg
theorem dueX_end {n : Nat} {V : Nat → Int × Int} {now : Int} {m : Nat} {W G : Nat → Int} (h : DueX n V now m W G) (hg : ∀ j, j < n → G j < 0) : DueL n V now m W := by
  obtain ⟨a, b, c, d⟩ := h
  refine ⟨a, b, fun j hj hd => ?_⟩
  rcases c j hj with ⟨q, _⟩ | ⟨_, q⟩
  · have := hg j hj; omega
  · exact q
theorem dueX_on {n : Nat} {V : Nat → Int × Int} {now : Int} {m t : Nat} {W G W' G' : Nat → Int} (h : DueX n V now m W G) (ht : t < n) (h0 : 0 ≤ G t) (hb : ∀ j, j < n → 0 ≤ G j → (G j < G t ∨ (G j = G t ∧ t ≤ j))) (hW : ∀ i, i < m → W' i = W i) (hWm : W' m = (t : Int)) (hG : ∀ j, j ≠ t → G' j = G j) (hGt : G' t = -1) : DueX n V now (m + 1) W' G' := by
  obtain ⟨a, b, c, d⟩ := h
  have ct : G t = byd V now t ∧ ∀ i, i < m → W i ≠ (t : Int) := by
    rcases c t ht with q | q
    · exact q
    · omega
  refine ⟨fun i j _ g2 g3 => ?_, fun i hi => ?_, fun j hj => ?_, fun i hi j hj hd hn => ?_⟩
  · rw [hW i (by omega)]
    by_cases q : j = m
    · rw [q, hWm]; exact d i (by omega) t ht (by omega) ct.2
    · rw [hW j (by omega)]; exact a i j (Nat.zero_le _) g2 (by omega)
  · by_cases q : i = m
    · exact ⟨t, ht, by rw [q]; exact hWm, by omega⟩
    · rw [hW i (by omega)]; exact b i (by omega)
  · by_cases q : j = t
    · subst q
      exact Or.inr ⟨hGt, m, by omega, hWm⟩
    · rw [hG j q]
      rcases c j hj with ⟨x, y⟩ | ⟨x, i, y, z⟩
      · refine Or.inl ⟨x, fun i hi => ?_⟩
        by_cases r : i = m
        · rw [r, hWm]; omega
        · rw [hW i (by omega)]; exact y i (by omega)
      · exact Or.inr ⟨x, i, by omega, by rw [hW i y]; exact z⟩
  · have hj1 : ∀ x, x < m → W x ≠ (j : Int) := fun x hx => by rw [← hW x hx]; exact hn x (by omega)
    have hj2 : t ≠ j := fun e => hn m (by omega) (by rw [hWm, e])
    by_cases q : i = m
    · rw [q, hWm]
      rcases c j hj with ⟨x, _⟩ | ⟨_, x, y, z⟩
      · have := hb j hj (by omega)
        unfold ltD
        simp only [Int.toNat_natCast]
        omega
      · exact absurd z (hj1 x y)
    · rw [hW i (by omega)]; exact d i (by omega) j hj hd hj1
theorem dueX_le {n : Nat} {V : Nat → Int × Int} {now : Int} {m : Nat} {W G : Nat → Int} (h : DueX n V now m W G) : m ≤ n := by
  refine pigeon n m (fun i => (W i).toNat) (fun i hi => ?_) (fun i j hi hj => ?_)
  · obtain ⟨a, a1, a2, _⟩ := h.2.1 i hi
    show (W i).toNat < n
    omega
  · obtain ⟨a, a1, a2, _⟩ := h.2.1 i (by omega)
    obtain ⟨b, b1, b2, _⟩ := h.2.1 j hj
    intro e
    have e : (W i).toNat = (W j).toNat := e
    have l1 := h.1 i j (Nat.zero_le _) hi hj
    rw [show W j = W i by omega] at l1
    exact absurd l1 (ltD_irr V now _)
def lenV : Value → Nat
  | .slice _ n _ => n
  | _ => 0
theorem news_oneD {W : World} {lb : Nat} {a : Value} (h0 : W.cell? ⟨lb, 0, none⟩ = some a) : ∀ j u, [a][j]? = some u → W.cell? ((⟨lb, 0, none⟩ : Addr).add j) = some u := fun j u hu => by
  rw [Addr.add_lit, Nat.zero_add]
  match j, hu with
  | 0, hu => cases hu; exact h0
theorem list_i64X {ops : Array Oper} {rest : List Oper} {o : Oper} {a : Act} {Q : Exit → Act → World → Prop} {W : World} {t : TypeId} {x : Int} (base : Nat) (v : Value) (k : Nat) (xs : List Value) (s z : Operand) (hgd : o.guard = none)
    (ho : o.op = .call { callee := .builtin .append, args := #[s, z], argTypes := #[34, 34] }) (hs : a.eval s = v) (hx : a.eval z = .slice (some ⟨W.heap.size, 0, none⟩) 1 1) (hown : W.ownsRow base 2 1 v k xs) (hk : k ≤ 10000000) (hb : base ≤ W.heap.size)
    (h : ∀ g cap w', w'.ownsRow base 2 1 (.slice (some ⟨g, 0, none⟩) (k + 1) cap) (k + 1) (xs ++ [.int .i64 x]) → W.grownBy w' v.ownBlock → (v.ownBlock = some g ∨ W.heap.size < g) → wpList Tryd.prog ops Q rest (a.put o.dst (.slice (some ⟨g, 0, none⟩) (k + 1) cap)) w') :
    wpList Tryd.prog ops Q (o :: rest) a (W.alloc (.cells #[.int .i64 x] t)) := by
  obtain ⟨i0, hi, hz0, hz1, hz2⟩ := info_parts info_i64
  refine wpList_append_lies _ hgd s z 34 ho base 2 i0 (.int .i64 0) 1 8 Tryd.underlying34 hi hz0 hz1 hz2 rfl (by decide) v k xs hs (hown.alloc _) ⟨W.heap.size, 0, none⟩ 1 1 [.int .i64 x] hx rfl (newsOne _ _ _) ?_ (by decide) (by unfold maxLen; omega) (by omega) (by simp; omega) _ rfl ?_
  · intro u hu
    simp at hu
    subst hu; rfl
  · intro g cap w' h1 h2 h4 h3
    exact h g cap w' h1 (grown_new h2) (h4.imp id (fun e => by rw [e]; simp))
/-- The answer as it grows, in a block of its own, beside the block b. -/
def OutX (base : Nat) (w wr : World) (v : Value) (m : Nat) (W : Nat → Int) (b : Nat) : Prop := MadeI base w wr v m W ∧ v.ownBlock ≠ some b
theorem dat_grown {w w' : World} {b n : Nat} {G : Nat → Int} {row : Option Nat} (h : DatF w b n G) (hg : w.grownBy w' row) (hne : row ≠ some b) : DatF w' b n G := by
  have e := hg.block b h.1 (fun q => hne q.symm)
  exact ⟨Nat.lt_of_lt_of_le h.1 hg.size, fun o => (World.frozen?_of_block (w := w) e).trans (h.2.1 o), fun k hk => (World.cell?_of_block (w := w) e).trans (h.2.2 k hk)⟩
theorem dat_set {w : World} {b n t : Nat} {G : Nat → Int} {x : Int} (h : DatF w b n G) (ht : t < n) : DatF (w.setCell ⟨b, t, none⟩ (.int .i64 x)) b n (fun i => if i = t then x else G i) := by
  obtain ⟨h1, h2, h3⟩ := h
  refine ⟨by simpa using h1, fun o => by simp [go_sem, h2], fun k hk => ?_⟩
  by_cases q : k = t
  · subst q
    simp [go_sem, h3 _ hk]
  · simp [go_sem, h3 _ hk, q]
theorem out_set {base : Nat} {w w4 : World} {g' cap m t b : Nat} {W' : Nat → Int} {x : Value} (h : MadeI base w w4 (.slice (some ⟨g', 0, none⟩) m cap) m W') (hne : b ≠ g') (hb : base ≤ b) (hl : b < w4.heap.size) : OutX base w (w4.setCell ⟨b, t, none⟩ x) (.slice (some ⟨g', 0, none⟩) m cap) m W' b := by
  have bs := Beside.setCell b w4 t x
  refine ⟨⟨⟨h.1.1, ?_⟩, h.2.trans (bs.below hb (by omega))⟩, fun e => ?_⟩
  · rcases h.1.2 with ⟨q, _⟩ | ⟨g, cp, cur, e, bb, hg, r⟩
    · cases q
    · refine Or.inr ⟨g, cp, cur, e, bb, (bs.2.2.2.2 g (Array.getElem?_eq_some_iff.1 hg).1 (fun q => ?_)).trans hg, r⟩
      injection e with e1 _ _
      injection e1 with e1
      injection e1 with e1 _ _
      exact hne (q.symm.trans e1.symm)
  · simp only [Value.ownBlock] at e
    injection e with e
    exact hne e.symm
set_option maxRecDepth 20000 in
set_option maxHeartbeats 8000000 in
theorem specDue_any (s : Option Addr) (n c : Nat) (V : Nat → Int × Int) (now : Int) (w : World) (hn : (n : Int) ≤ 1048576) (HR : Hid (RowTest w s n V)) :
    Calls Tryd.prog 11 #[.slice s n c, .int .i64 now] w fun e w' => DuePost n V now w e w' := by
  obtain ⟨w1, hw1⟩ : ∃ w1, w1 = w.alloc (.cells #[] 2) := ⟨_, rfl⟩
  have HB1 : Hid (Below w.heap.size w w1) := by rw [hw1]; exact below0 _ _
  have z1 : w1.heap.size = w.heap.size + 1 := by rw [hw1]; simp
  have HO1 : Hid (MadeI w.heap.size w w1 (.slice (some ⟨w.heap.size, 0, none⟩) 0 0) 0 (fun _ => 0)) := by rw [hw1]; exact made_lit w _ (Nat.le_refl _)
  have B1 := HB1.out
  have Hz1 : Hid (w1.heap.size = w.heap.size + 1) := z1
  have zw : w.heap.size ≤ w1.heap.size := by omega
  clear z1
  go_enter Tryd.func11, Tryd.ntmps11
  by_cases n1 : 60 < n
  · have b1 : (60 : Int) < (n : Int) := by omega
    have HO : Hid (duB n V now = false) := by show _ = _; unfold duB; rw [tss_long n1]; simp
    go_upto_region 2 with fail
    rw [← hw1]
    clear hw1
    go_wp2
    go_ret
    exact ⟨_, 0, 0, fun _ => 0, rfl, fun j hj => by omega, due_no HO.out, (by repeat (first | with_reducible exact Below.refl _ _ | with_reducible exact B1 | with_reducible refine Below.setCell ?_ (by first | omega | (simp; done) | (simp; omega)) _ | with_reducible refine bDrewN ?_ _ | with_reducible refine Below.drew ?_ | with_reducible refine Below.alloc ?_ (by first | omega | (simp; done) | (simp; omega)) _))⟩
  have b1 : decide ((60 : Int) < (n : Int)) = false := decide_eq_false (by omega)
  have n6 : n ≤ 60 := by omega
  go_upto_region 2 with fail
  rw [← hw1]
  clear hw1
  go_wp2_with fail
  refine (l1In_is _ _ _ _).mono ?_
  rintro e w1 ⟨rfl, rfl⟩
  cases e0 : inB 0 1000000000 now
  · have HO : Hid (duB n V now = false) := by show _ = _; unfold duB; rw [e0]; rfl
    go_wp2
    go_ret
    exact ⟨_, 0, 0, fun _ => 0, rfl, fun j hj => by omega, due_no HO.out, (by repeat (first | with_reducible exact Below.refl _ _ | with_reducible exact B1 | with_reducible refine Below.setCell ?_ (by first | omega | (simp; done) | (simp; omega)) _ | with_reducible refine bDrewN ?_ _ | with_reducible refine Below.drew ?_ | with_reducible refine Below.alloc ?_ (by first | omega | (simp; done) | (simp; omega)) _))⟩
  obtain ⟨hN1, hN2⟩ := inB_yes e0
  have HE0 : Hid (inB 0 1000000000 now = true) := e0
  clear e0 B1
  go_wp2_with fail
  go_loopw [6, 7] (fun v i wr => ∃ k : Nat, k ≤ n ∧ i = .int .i64 k ∧ Hid (v.ownBlock ≠ none) ∧ Hid (∀ j, j < k → tstB now (V j) = true) ∧ Hid (MadeI w1.heap.size w1 wr v k (byd V now))) (fun _ i _ => n - (intOf i).toNat)
  case atStart => exact ⟨0, Nat.zero_le _, rfl, by show _ ≠ _; simp [Value.ownBlock], fun j hj => by omega, made_lit _ _ (Nat.le_refl _)⟩
  case round =>
    obtain ⟨k, hk, rfl, HNN, HP, HM⟩ := hrel
    rename World => wr
    have B2 : Below w1.heap.size w1 wr := HM.out.2
    have zr : w1.heap.size ≤ wr.heap.size := B2.size
    have B3 : Below w.heap.size w wr := HB1.out.trans (B2.mono zw)
    have HB3 : Hid (Below w.heap.size w wr) := B3
    by_cases h1 : k < n
    case pos =>
      obtain ⟨g, o, hs, zg1, c0, c1⟩ := HR.out k h1
      subst hs
      replace c0 := (B3.cell (p := ⟨g, o + k * 2, none⟩) zg1).trans c0
      replace c1 := (B3.cell (p := ⟨g, o + k * 2 + 1, none⟩) zg1).trans c1
      have zg := Nat.lt_of_lt_of_le zg1 B3.size
      replace zg1 : g < w1.heap.size := by omega
      have HBY : Hid (byd V now k = now - (V k).2 - (V k).1) := rfl
      obtain ⟨⟨a, b⟩, hV⟩ : ∃ z, V k = z := ⟨_, rfl⟩
      rw [hV] at c0 c1 HBY
      simp only at c0 c1
      replace HBY : Hid (byd V now k = now - b - a) := HBY.out
      have HV : Hid (V k = (a, b)) := hV
      have k1 : (k : Int) < (n : Int) := by omega
      clear hV B2
      go_wp2_with fail
      refine (l1In_is _ _ _ _).mono ?_
      rintro e wr ⟨rfl, rfl⟩
      cases e0 : inB 1 1000000 a
      · have HO : Hid (duB n V now = false) := by show _ = _; unfold duB; rw [tss_bad h1 (by rw [HV.out]; unfold tstB; simp only; rw [e0]; rfl)]; simp
        go_wp2
        go_ret
        exact ⟨_, 0, 0, fun _ => 0, rfl, fun j hj => by omega, due_no HO.out, (by repeat (first | with_reducible exact Below.refl _ _ | with_reducible exact B3 | with_reducible refine Below.setCell ?_ (by first | omega | (simp; done) | (simp; omega)) _ | with_reducible refine bDrewN ?_ _ | with_reducible refine Below.drew ?_ | with_reducible refine Below.alloc ?_ (by first | omega | (simp; done) | (simp; omega)) _))⟩
      go_wp2_with fail
      refine (l1In_is _ _ _ _).mono ?_
      rintro e wr ⟨rfl, rfl⟩
      cases e1 : inB 0 now b
      · have HO : Hid (duB n V now = false) := by show _ = _; unfold duB; rw [tss_bad h1 (by rw [HV.out]; unfold tstB; simp only; rw [e1]; simp)]; simp
        go_wp2
        go_ret
        exact ⟨_, 0, 0, fun _ => 0, rfl, fun j hj => by omega, due_no HO.out, (by repeat (first | with_reducible exact Below.refl _ _ | with_reducible exact B3 | with_reducible refine Below.setCell ?_ (by first | omega | (simp; done) | (simp; omega)) _ | with_reducible refine bDrewN ?_ _ | with_reducible refine Below.drew ?_ | with_reducible refine Below.alloc ?_ (by first | omega | (simp; done) | (simp; omega)) _))⟩
      have HT : Hid (tstB now (V k) = true) := by show _ = _; rw [HV.out]; unfold tstB; simp only; rw [e0, e1]; rfl
      have HP2 : Hid (∀ j, j < k + 1 → tstB now (V j) = true) := fun j hj => by
        by_cases q : j = k
        · rw [q]; exact HT.out
        · exact HP.out j (by omega)
      obtain ⟨t3, t4⟩ := inB_yes e0
      obtain ⟨t5, t6⟩ := inB_yes e1
      clear e0 e1 HT HV B3
      go_upto_region 10 with fail
      refine wp_region_held_drew (S := fun w' => w'.cell? ⟨g, o + k * 2, none⟩ = some (.int .i64 a) ∧ w'.cell? ⟨g, o + k * 2 + 1, none⟩ = some (.int .i64 b)) (by kernel_rfl) ?_ (fun hHeld => ?_)
      · exact ⟨((Below.drew (Below.refl _ _) : Below wr.heap.size wr wr.drew).cell (p := ⟨g, o + k * 2, none⟩) zg).trans c0, ((Below.drew (Below.refl _ _) : Below wr.heap.size wr wr.drew).cell (p := ⟨g, o + k * 2 + 1, none⟩) zg).trans c1⟩
      obtain ⟨v0, hv0⟩ : ∃ z, z = wr.drew := ⟨_, rfl⟩
      try rw [← hv0] at hHeld
      rw [← hv0]
      have bv0 : Below wr.heap.size wr v0 := by rw [hv0]; exact Below.drew (Below.refl _ _)
      clear hv0
      replace c0 := (bv0.cell (p := ⟨g, o + k * 2, none⟩) zg).trans c0
      replace c1 := (bv0.cell (p := ⟨g, o + k * 2 + 1, none⟩) zg).trans c1
      replace zg := Nat.lt_of_lt_of_le zg bv0.size
      replace HM : Hid (MadeI w1.heap.size w1 v0 u6 k (byd V now)) := made_kept HM.out bv0 zr
      replace zr : w1.heap.size ≤ v0.heap.size := Nat.le_trans zr bv0.size
      clear bv0
      refine wpAnyH_take (i := 0) (v := u6) rfl (by kernel_rfl) (by kernel_rfl) (by kernel_rfl) (fun _ _ _ h => h) (Or.inl ⟨by kernel_rfl, ?_⟩) hHeld ?_
      · intro w' hSw
        obtain ⟨s0, s1⟩ := hSw
        first | (go_simp; done) | (go_simp; with_reducible rfl) | (go_simp; rw [IntKind.wrap_i64]; omega) | (go_simp; omega)
      simp only [Act.put, List.setIfInBounds_toArray, List.set_cons_zero, List.set_cons_succ]
      refine wpAnyH_take (i := 1) (v := .int .i64 now) rfl (by kernel_rfl) (by kernel_rfl) (by kernel_rfl) (fun _ _ _ h => h) (Or.inl ⟨by kernel_rfl, ?_⟩) hHeld ?_
      · intro w' hSw
        obtain ⟨s0, s1⟩ := hSw
        first | (go_simp; done) | (go_simp; with_reducible rfl) | (go_simp; rw [IntKind.wrap_i64]; omega) | (go_simp; omega)
      simp only [Act.put, List.setIfInBounds_toArray, List.set_cons_zero, List.set_cons_succ]
      refine wpAnyH_take (i := 2) (v := .slice (some ⟨g, o, none⟩) n c) rfl (by kernel_rfl) (by kernel_rfl) (by kernel_rfl) (fun _ _ _ h => h) (Or.inl ⟨by kernel_rfl, ?_⟩) hHeld ?_
      · intro w' hSw
        obtain ⟨s0, s1⟩ := hSw
        first | (go_simp; done) | (go_simp; with_reducible rfl) | (go_simp; rw [IntKind.wrap_i64]; omega) | (go_simp; omega)
      simp only [Act.put, List.setIfInBounds_toArray, List.set_cons_zero, List.set_cons_succ]
      refine wpAnyH_take (i := 3) (v := .int .i64 (k : Int)) rfl (by kernel_rfl) (by kernel_rfl) (by kernel_rfl) (fun _ _ _ h => h) (Or.inl ⟨by kernel_rfl, ?_⟩) hHeld ?_
      · intro w' hSw
        obtain ⟨s0, s1⟩ := hSw
        first | (go_simp; done) | (go_simp; with_reducible rfl) | (go_simp; rw [IntKind.wrap_i64]; omega) | (go_simp; omega)
      simp only [Act.put, List.setIfInBounds_toArray, List.set_cons_zero, List.set_cons_succ]
      refine wpAnyH_take (i := 4) (v := .pointer (some ⟨g, o + k * 2, none⟩)) rfl (by kernel_rfl) (by kernel_rfl) (by kernel_rfl) (fun _ _ _ h => h) (Or.inl ⟨by kernel_rfl, ?_⟩) hHeld ?_
      · intro w' hSw
        obtain ⟨s0, s1⟩ := hSw
        first | (go_simp; done) | (go_simp; with_reducible rfl) | (go_simp; rw [IntKind.wrap_i64]; omega) | (go_simp; omega)
      simp only [Act.put, List.setIfInBounds_toArray, List.set_cons_zero, List.set_cons_succ]
      refine wpAnyH_take (i := 5) (v := .pointer (some ⟨g, o + k * 2 + 1, none⟩)) rfl (by kernel_rfl) (by kernel_rfl) (by kernel_rfl) (fun _ _ _ h => h) (Or.inl ⟨by kernel_rfl, ?_⟩) hHeld ?_
      · intro w' hSw
        obtain ⟨s0, s1⟩ := hSw
        first | (go_simp; done) | (go_simp; with_reducible rfl) | (go_simp; rw [IntKind.wrap_i64]; omega) | (go_simp; omega)
      simp only [Act.put, List.setIfInBounds_toArray, List.set_cons_zero, List.set_cons_succ]
      refine wpAnyH_take (i := 6) (v := .int .i64 b) rfl (by kernel_rfl) (by kernel_rfl) (by kernel_rfl) (fun _ _ _ h => h) (Or.inl ⟨by kernel_rfl, ?_⟩) hHeld ?_
      · intro w' hSw
        obtain ⟨s0, s1⟩ := hSw
        first | (go_simp; done) | (go_simp; with_reducible rfl) | (go_simp; rw [IntKind.wrap_i64]; omega) | (go_simp; omega)
      simp only [Act.put, List.setIfInBounds_toArray, List.set_cons_zero, List.set_cons_succ]
      refine wpAnyH_take (i := 7) (v := .int .i64 (now - b)) rfl (by kernel_rfl) (by kernel_rfl) (by kernel_rfl) (fun _ _ _ h => h) (Or.inl ⟨by kernel_rfl, ?_⟩) hHeld ?_
      · intro w' hSw
        obtain ⟨s0, s1⟩ := hSw
        first | (go_simp; done) | (go_simp; with_reducible rfl) | (go_simp; rw [IntKind.wrap_i64]; omega) | (go_simp; omega)
      simp only [Act.put, List.setIfInBounds_toArray, List.set_cons_zero, List.set_cons_succ]
      refine wpAnyH_take (i := 8) (v := .slice (some ⟨g, o, none⟩) n c) rfl (by kernel_rfl) (by kernel_rfl) (by kernel_rfl) (fun _ _ _ h => h) (Or.inl ⟨by kernel_rfl, ?_⟩) hHeld ?_
      · intro w' hSw
        obtain ⟨s0, s1⟩ := hSw
        first | (go_simp; done) | (go_simp; with_reducible rfl) | (go_simp; rw [IntKind.wrap_i64]; omega) | (go_simp; omega)
      simp only [Act.put, List.setIfInBounds_toArray, List.set_cons_zero, List.set_cons_succ]
      refine wpAnyH_take (i := 9) (v := .int .i64 (k : Int)) rfl (by kernel_rfl) (by kernel_rfl) (by kernel_rfl) (fun _ _ _ h => h) (Or.inl ⟨by kernel_rfl, ?_⟩) hHeld ?_
      · intro w' hSw
        obtain ⟨s0, s1⟩ := hSw
        first | (go_simp; done) | (go_simp; with_reducible rfl) | (go_simp; rw [IntKind.wrap_i64]; omega) | (go_simp; omega)
      simp only [Act.put, List.setIfInBounds_toArray, List.set_cons_zero, List.set_cons_succ]
      refine wpAnyH_take (i := 10) (v := .pointer (some ⟨g, o + k * 2, none⟩)) rfl (by kernel_rfl) (by kernel_rfl) (by kernel_rfl) (fun _ _ _ h => h) (Or.inl ⟨by kernel_rfl, ?_⟩) hHeld ?_
      · intro w' hSw
        obtain ⟨s0, s1⟩ := hSw
        first | (go_simp; done) | (go_simp; with_reducible rfl) | (go_simp; rw [IntKind.wrap_i64]; omega) | (go_simp; omega)
      simp only [Act.put, List.setIfInBounds_toArray, List.set_cons_zero, List.set_cons_succ]
      refine wpAnyH_take (i := 11) (v := .pointer (some ⟨g, o + k * 2, none⟩)) rfl (by kernel_rfl) (by kernel_rfl) (by kernel_rfl) (fun _ _ _ h => h) (Or.inl ⟨by kernel_rfl, ?_⟩) hHeld ?_
      · intro w' hSw
        obtain ⟨s0, s1⟩ := hSw
        first | (go_simp; done) | (go_simp; with_reducible rfl) | (go_simp; rw [IntKind.wrap_i64]; omega) | (go_simp; omega)
      simp only [Act.put, List.setIfInBounds_toArray, List.set_cons_zero, List.set_cons_succ]
      refine wpAnyH_take (i := 12) (v := .int .i64 a) rfl (by kernel_rfl) (by kernel_rfl) (by kernel_rfl) (fun _ _ _ h => h) (Or.inl ⟨by kernel_rfl, ?_⟩) hHeld ?_
      · intro w' hSw
        obtain ⟨s0, s1⟩ := hSw
        first | (go_simp; done) | (go_simp; with_reducible rfl) | (go_simp; rw [IntKind.wrap_i64]; omega) | (go_simp; omega)
      simp only [Act.put, List.setIfInBounds_toArray, List.set_cons_zero, List.set_cons_succ]
      refine wpAnyH_take (i := 13) (v := .int .i64 (now - b - a)) rfl (by kernel_rfl) (by kernel_rfl) (by kernel_rfl) (fun _ _ _ h => h) (Or.inl ⟨by kernel_rfl, ?_⟩) hHeld ?_
      · intro w' hSw
        obtain ⟨s0, s1⟩ := hSw
        first | (go_simp; done) | (go_simp; with_reducible rfl) | (go_simp; rw [IntKind.wrap_i64]; omega) | (go_simp; omega)
      simp only [Act.put, List.setIfInBounds_toArray, List.set_cons_zero, List.set_cons_succ]
      refine wpAnyH_ready (rs := [14]) (by kernel_rfl) (by simp) ?_
      refine (AllReadyH.cons rfl (fun KK hK => ?_) AllReadyH.nil)
      go_simp
      obtain ⟨v0_1, hv_⟩ : ∃ z, z = v0.alloc (.cells #[.int .i64 (now - b - a)] 2) := ⟨_, rfl⟩
      rw [← hv_]
      obtain ⟨lb, hlb⟩ : ∃ z, z = v0.heap.size := ⟨_, rfl⟩
      have b_ : Below v0.heap.size v0 v0_1 := by rw [hv_]; exact below0 _ _
      have LB0 : v0_1.cell? ⟨lb, 0, none⟩ = some (.int .i64 (now - b - a)) := by rw [hv_, hlb]; simp [go_sem]
      replace HM : Hid (MadeI w1.heap.size w1 v0_1 u6 k (byd V now)) := made_kept HM.out b_ zr
      replace zr : w1.heap.size ≤ v0_1.heap.size := Nat.le_trans zr b_.size
      replace c0 := (b_.cell (p := ⟨g, o + k * 2, none⟩) zg).trans c0
      replace c1 := (b_.cell (p := ⟨g, o + k * 2 + 1, none⟩) zg).trans c1
      replace zg := Nat.lt_of_lt_of_le zg b_.size
      try rw [← hlb]
      clear hv_ hlb b_
      refine hK.out _ _ (⟨c0, c1⟩) (fun hHeld => ?_)
      clear hK KK
      refine wpAnyH_ready (rs := [15]) (by kernel_rfl) (by simp) ?_
      refine (AllReadyH.cons rfl (fun KK hK => ?_) AllReadyH.nil)
      obtain ⟨i0, hi, hz0, hz1, hz2⟩ := info_parts info_i64
      refine wp_append_lies _ (.tmp 45) (.tmp 59) 34 (by rfl) w1.heap.size 2 i0 (.int .i64 0) 1 8 Tryd.underlying34 hi hz0 hz1 hz2 rfl (by decide) u6 k (vals (byd V now) k) (by rfl) HM.out.1 ⟨lb, 0, none⟩ 1 1 [.int .i64 (now - b - a)] (by rfl) rfl (news_oneD LB0) (by intro u hu; simp at hu; subst hu; rfl) (by decide) (by unfold maxLen; omega) (by omega) zr _ rfl ?_
      intro g9 cap9 v0_2 hown9 hgrow9 _ _
      have b_ : Below w1.heap.size v0_1 v0_2 := grown_below hgrow9 zr (own_block HM.out.1)
      have HM9 : Hid (MadeI w1.heap.size w1 v0_2 (.slice (some ⟨g9, 0, none⟩) (k + 1) cap9) (k + 1) (byd V now)) := made_on HM.out (Below.refl _ _) zr (by rw [HBY.out]; exact hown9) hgrow9
      replace c0 := (b_.cell (p := ⟨g, o + k * 2, none⟩) zg1).trans c0
      replace c1 := (b_.cell (p := ⟨g, o + k * 2 + 1, none⟩) zg1).trans c1
      clear hown9 hgrow9 b_ LB0 hi hz0 hz1 hz2
      go_simp
      refine hK.out _ _ (⟨c0, c1⟩) (fun hHeld => ?_)
      clear hK KK
      refine wpAnyH_ready (rs := [16]) (by kernel_rfl) (by simp) ?_
      refine AllReadyH.cons rfl (fun KK hK => ?_) AllReadyH.nil
      go_simp
      refine hK.out _ _ hHeld (fun hHeld => ?_)
      clear hK KK
      refine wpAnyH_done (by kernel_rfl) ?_ _
      clear hHeld
      go_wp2
      go_roundw
      case rel => exact ⟨k + 1, by omega, by go_num, by show _ ≠ _; simp [Value.ownBlock], HP2, HM9⟩
      case measure => first | (simp [intOf]; done) | (simp [intOf]; omega)
    case neg =>
      obtain rfl : k = n := by omega
      have HDU : Hid (duB k V now = true) := by show _ = _; unfold duB; rw [HE0.out, tss_is n6, decide_eq_true HP.out]; rfl
      rcases ownS_of HM.out.1 with ⟨hv, hk0⟩ | ⟨b, cap, hv, hb, HD0⟩
      · exfalso
        have := HNN.out
        rw [hv] at this
        exact this rfl
      subst hv
      have HD : Hid (DatF wr b k (byd V now)) := HD0
      have HO2 : Hid (OutX w.heap.size w wr (.slice (some ⟨w.heap.size, 0, none⟩) 0 0) 0 (fun _ => 0) b) := ⟨⟨(made_kept HO1.out B2 zw).1, B3⟩, fun e => by simp [Value.ownBlock] at e; have := Hz1.out; omega⟩
      have HX0 : Hid (DueX k V now 0 (fun _ => 0) (byd V now)) := dueX_zero k V now _
      have Hb : Hid (w1.heap.size ≤ b) := hb
      clear HD0 hb HM HP B2 B3 h1 HNN
      go_wp2_with fail
      go_loopw [5] (fun v wq => ∃ (m : Nat) (W G : Nat → Int), Hid (lenV v = m) ∧ Hid (OutX w.heap.size w wq v m W b) ∧ Hid (DatF wq b k G) ∧ Hid (DueX k V now m W G)) (fun v _ => k + 1 - lenV v)
      case atStart => exact ⟨0, _, _, rfl, HO2, HD, HX0⟩
      case round =>
        clear HO2 HD HX0
        obtain ⟨m, W, G, Hm, HO, HD, HX⟩ := hrel
        rename World => wq
        have mn : m ≤ k := dueX_le HX.out
        have HBq : Hid (Below w.heap.size w wq) := HO.out.1.2
        go_wp2_with fail
        go_loopw [8, 9] (fun a i wz => ∃ (j : Nat) (A : Int), j ≤ k ∧ i = .int .i64 j ∧ a = .int .i64 A ∧ Hid (BstT G j A) ∧ Hid (Below wq.heap.size wq wz)) (fun _ i _ => k - (intOf i).toNat)
        case atStart => exact ⟨0, -1, Nat.zero_le _, rfl, rfl, bst_zero G, Below.refl _ _⟩
        case round =>
          obtain ⟨j, A, hj, rfl, rfl, HT, HBz⟩ := hrel
          rename World => wz
          have HDz : Hid (DatF wz b k G) := HD.out.below HBz.out
          by_cases h2 : j < k
          case pos =>
            have j1 : (j : Int) < (k : Int) := by omega
            have d0 := HDz.out.2.2 j h2
            obtain ⟨x, hx⟩ : ∃ x, G j = x := ⟨_, rfl⟩
            rw [hx] at d0
            have zb : b < wz.heap.size := HDz.out.1
            by_cases q0 : 0 ≤ x
            case neg =>
              have q1 : decide (0 ≤ x) = false := decide_eq_false q0
              have HN : Hid (BstT G (j + 1) A) := bst_low HT.out (by omega)
              clear hx q0
              go_upto_region 15 with fail
              go_quiet (fail)
              go_wp2
              go_roundw
              case rel => exact ⟨j + 1, A, by omega, by first | go_num | rfl, by first | rfl | go_num, HN, by have hb_ := HBz.out; exact (show Below _ _ _ from (by repeat (first | with_reducible exact Below.refl _ _ | with_reducible exact hb_ | with_reducible refine Below.setCell ?_ (by first | omega | (simp; done) | (simp; omega)) _ | with_reducible refine bDrewN ?_ _ | with_reducible refine Below.drew ?_ | with_reducible refine Below.alloc ?_ (by first | omega | (simp; done) | (simp; omega)) _)))⟩
              case measure => first | (simp [intOf]; done) | (simp [intOf]; omega)
            case pos =>
              have q1 : decide (0 ≤ x) = true := decide_eq_true q0
              rcases HT.out with ⟨hA, hl⟩ | ⟨t, ht, hA, h0, hl⟩
              · have HN : Hid (BstT G (j + 1) (j : Int)) := bst_first hl (by omega)
                subst hA
                have q2 : decide ((-1 : Int) < 0) = true := rfl
                clear hx hl HT
                go_upto_region 15 with fail
                go_quiet (fail)
                go_wp2
                go_roundw
                case rel => exact ⟨j + 1, (j : Int), by omega, by first | go_num | rfl, by first | rfl | go_num, HN, by have hb_ := HBz.out; exact (show Below _ _ _ from (by repeat (first | with_reducible exact Below.refl _ _ | with_reducible exact hb_ | with_reducible refine Below.setCell ?_ (by first | omega | (simp; done) | (simp; omega)) _ | with_reducible refine bDrewN ?_ _ | with_reducible refine Below.drew ?_ | with_reducible refine Below.alloc ?_ (by first | omega | (simp; done) | (simp; omega)) _)))⟩
                case measure => first | (simp [intOf]; done) | (simp [intOf]; omega)
              · subst hA
                have d1 := HDz.out.2.2 t (by omega)
                obtain ⟨y, hy⟩ : ∃ y, G t = y := ⟨_, rfl⟩
                rw [hy] at d1
                have q2 : decide ((t : Int) < 0) = false := decide_eq_false (by omega)
                have t1 : (t : Int) < (k : Int) := by omega
                have t0 : (0 : Int) ≤ (t : Int) := by omega
                by_cases q3 : y < x
                case pos =>
                  have HN : Hid (BstT G (j + 1) (j : Int)) := bst_take hl (by omega) (by omega)
                  have q4 : decide (y < x) = true := decide_eq_true q3
                  clear hx hy hl h0 HT
                  go_upto_region 15 with fail
                  go_quiet (fail)
                  go_wp2
                  go_roundw
                  case rel => exact ⟨j + 1, (j : Int), by omega, by first | go_num | rfl, by first | rfl | go_num, HN, by have hb_ := HBz.out; exact (show Below _ _ _ from (by repeat (first | with_reducible exact Below.refl _ _ | with_reducible exact hb_ | with_reducible refine Below.setCell ?_ (by first | omega | (simp; done) | (simp; omega)) _ | with_reducible refine bDrewN ?_ _ | with_reducible refine Below.drew ?_ | with_reducible refine Below.alloc ?_ (by first | omega | (simp; done) | (simp; omega)) _)))⟩
                  case measure => first | (simp [intOf]; done) | (simp [intOf]; omega)
                case neg =>
                  have HN : Hid (BstT G (j + 1) (t : Int)) := bst_keep ht h0 hl (by omega)
                  have q4 : decide (y < x) = false := decide_eq_false q3
                  clear hx hy hl h0 HT
                  go_upto_region 15 with fail
                  go_quiet (fail)
                  go_wp2
                  go_roundw
                  case rel => exact ⟨j + 1, (t : Int), by omega, by first | go_num | rfl, by first | rfl | go_num, HN, by have hb_ := HBz.out; exact (show Below _ _ _ from (by repeat (first | with_reducible exact Below.refl _ _ | with_reducible exact hb_ | with_reducible refine Below.setCell ?_ (by first | omega | (simp; done) | (simp; omega)) _ | with_reducible refine bDrewN ?_ _ | with_reducible refine Below.drew ?_ | with_reducible refine Below.alloc ?_ (by first | omega | (simp; done) | (simp; omega)) _)))⟩
                  case measure => first | (simp [intOf]; done) | (simp [intOf]; omega)
          case neg =>
            obtain rfl : j = k := by omega
            have HO3 : Hid (MadeI w.heap.size w wz u5 m W) := made_kept HO.out.1 HBz.out HBq.out.size
            rcases HT.out with ⟨hA, hl⟩ | ⟨t, ht, hA, h0, hl⟩
            · subst hA
              have HE : Hid (DueR j V now m W) := due_yes HDU.out (dueX_end HX.out hl)
              obtain ⟨s', cap', hs', HOw⟩ := made_own HO3.out
              subst hs'
              have HP : Hid (OwnI w.heap.size wz s' m W ∧ Below w.heap.size w wz) := ⟨HOw, HO3.out.2⟩
              clear HOw hl
              go_wp2
              go_ret
              exact ⟨s', cap', m, W, rfl, HP.out.1, HE.out, HP.out.2⟩
            · subst hA
              have t0 : (0 : Int) ≤ (t : Int) := by omega
              have t1 : (t : Int) < (j : Int) := by omega
              have q2 : decide ((t : Int) < 0) = false := decide_eq_false (by omega)
              obtain ⟨W', hW'⟩ : ∃ W' : Nat → Int, W' = fun i => if i < m then W i else (t : Int) := ⟨_, rfl⟩
              have HW1 : Hid (∀ i, i < m → W i = W' i) := fun i hi => by rw [hW']; exact (if_pos hi).symm
              have HW2 : Hid (W' m = (t : Int)) := by rw [hW']; exact if_neg (by omega)
              have HM4 : Hid (MadeI w.heap.size w wz u5 m W') := made_as HO3.out HW1.out
              have HOWN : Hid (wz.ownsRow w.heap.size 2 1 u5 m (vals W' m)) := HM4.out.1
              have zz : w.heap.size ≤ wz.heap.size := HO3.out.2.size
              have HX2 : Hid (DueX j V now (m + 1) W' (fun i => if i = t then -1 else G i)) := dueX_on HX.out ht h0 hl (fun i hi => (HW1.out i hi).symm) HW2.out (fun i hi => if_neg hi) (if_pos rfl)
              have m2 : m + 1 ≤ j := dueX_le HX2.out
              have HNB : Hid (Value.ownBlock u5 ≠ some b) := HO.out.2
              have HT1 : Hid (t < j) := ht
              clear hW' HO3 h0 hl HT
              go_wp2_with (at_builtin; refine list_i64X w.heap.size u5 m (vals W' m) (.tmp 91) (.tmp 93) (by rfl) (by rfl) (by rfl) (by rfl) HOWN.out (by omega) (by omega) ?_; intro g' cap' w4 hown4 hgrow4 hat4; have HM5 : Hid (MadeI w.heap.size w w4 (.slice (some ⟨g', 0, none⟩) (m + 1) cap') (m + 1) W') := made_on HM4.out (Below.refl _ _) zz (by rw [HW2.out]; exact hown4) hgrow4; have zb4 : b < wz.heap.size := HDz.out.1; have HG5 : Hid (b ≠ g') := (fun e => hat4.elim (fun q => HNB.out (by rw [q, e])) (fun q => by omega)); have HD5 : Hid (DatF w4 b j G) := dat_grown HDz.out hgrow4 HNB.out; have d5 := HD5.out.2.2 t HT1.out; have f5 := HD5.out.2.1 t; have z5 : b < w4.heap.size := HD5.out.1; clear hown4 hgrow4 hat4 zb4)
              go_roundw
              case rel => exact ⟨m + 1, W', _, rfl, out_set HM5.out HG5.out (by have := Hb.out; have := Hz1.out; omega) HD5.out.1, dat_set HD5.out HT1.out, HX2⟩
              case measure => show j + 1 - (m + 1) < j + 1 - lenV u5; rw [Hm.out]; omega
end Go.Proofs.YtfhbkfdfggaomabDoor
