/-
What is proved: the program's trial of code: its memory, what each of its tests answers.
-/
import Derived.Test.YtdidgbibbkhnhaaCo
namespace Go.Proofs.Ytdidgbibbkhnhaa
set_option maxRecDepth 40000
open Go.RowKit
set_option linter.unusedVariables false
set_option linter.unusedSimpArgs false

/-- Of the blocks that were there none has turned but two. -/
def Tw (p g : Nat) (w w' : World) : Prop := w'.os = w.os ∧ w'.tape = w.tape ∧ w'.output = w.output ∧ w.heap.size ≤ w'.heap.size ∧ ∀ k, k < w.heap.size → k ≠ p → k ≠ g → w'.heap[k]? = w.heap[k]?
theorem Tw.refl (p g : Nat) (w : World) : Tw p g w w := ⟨rfl, rfl, rfl, Nat.le_refl _, fun _ _ _ _ => rfl⟩
theorem Tw.trans {p g : Nat} {a b c : World} (h : Tw p g a b) (k : Tw p g b c) : Tw p g a c := by
  obtain ⟨h1, h2, h3, h4, h5⟩ := h
  obtain ⟨k1, k2, k3, k4, k5⟩ := k
  exact ⟨k1.trans h1, k2.trans h2, k3.trans h3, Nat.le_trans h4 k4, fun i hi n1 n2 => (k5 i (by omega) n1 n2).trans (h5 i hi n1 n2)⟩
theorem Tw.left {p g : Nat} {w w' : World} (h : Beside p w w') : Tw p g w w' := ⟨h.1, h.2.1, h.2.2.1, h.2.2.2.1, fun k hk n1 _ => h.2.2.2.2 k hk n1⟩
theorem Tw.right {p g : Nat} {w w' : World} (h : Beside g w w') : Tw p g w w' := ⟨h.1, h.2.1, h.2.2.1, h.2.2.2.1, fun k hk _ n2 => h.2.2.2.2 k hk n2⟩
theorem Tw.below {p g B : Nat} {w w' : World} (h : Tw p g w w') (hp : B ≤ p) (hg : B ≤ g) (hB : B ≤ w.heap.size) : Below B w w' := by
  obtain ⟨h1, h2, h3, h4, h5⟩ := h
  exact ⟨h1, h2, h3, h4, fun k hk => h5 k (by omega) (by omega) (by omega)⟩
/-- The trial at p, its table at b, its row of cells at g. -/
def TrAt (p lo b g : Nat) (W : World) (C I : Int) (c : Nat) (K : Nat → Bool) (h : Int) : Prop := p < W.heap.size ∧ (∀ o, W.frozen? ⟨p, o, none⟩ = false) ∧ (W.cell? ⟨p, 0, none⟩ = some (.slice (some ⟨b, 0, none⟩) 21 21) ∧ W.cell? ⟨p, 1, none⟩ = some (.int .i64 C) ∧ W.cell? ⟨p, 2, none⟩ = some (.int .i64 I) ∧ W.cell? ⟨p, 3, none⟩ = some (.slice (some ⟨g, 0, none⟩) c c) ∧ W.cell? ⟨p, 4, none⟩ = some (.int .i64 h)) ∧ KtAt W lo b ∧ BoAt g W c K ∧ b < p ∧ g < p ∧ (g < lo ∨ b < g)
theorem TrAt.setH {p lo b g : Nat} {W : World} {C I : Int} {c : Nat} {K : Nat → Bool} {h : Int} (t : TrAt p lo b g W C I c K h) (x : Int) : TrAt p lo b g (W.setCell ⟨p, 4, none⟩ (.int .i64 x)) C I c K x := by
  obtain ⟨z, f, ⟨c0, c1, c2, c3, c4⟩, k, bo, h1, h2, h3⟩ := t
  have hb := Beside.setCell p W 4 (.int .i64 x)
  refine ⟨by simpa using z, fun o => by simp [go_sem, f], ⟨?_, ?_, ?_, ?_, ?_⟩, k.beside hb (by omega), bo.same hb.2.2.2.1 (hb.2.2.2.2 g bo.1 (by omega)), h1, h2, h3⟩
  · rw [World.cell?_setCell_other _ _ _ _ (by intro q; cases q)]; exact c0
  · rw [World.cell?_setCell_other _ _ _ _ (by intro q; cases q)]; exact c1
  · rw [World.cell?_setCell_other _ _ _ _ (by intro q; cases q)]; exact c2
  · rw [World.cell?_setCell_other _ _ _ _ (by intro q; cases q)]; exact c3
  · simp [go_sem, c4]
theorem TrAt.setK {p lo b g : Nat} {W : World} {C I : Int} {c : Nat} {K : Nat → Bool} {h : Int} (t : TrAt p lo b g W C I c K h) (m : Nat) : TrAt p lo b g (W.setCell ⟨g, m, none⟩ (.bool true)) C I c (fun j => decide (j = m) || K j) h := by
  obtain ⟨z, f, ⟨c0, c1, c2, c3, c4⟩, k, bo, h1, h2, h3⟩ := t
  have hb := Beside.setCell g W m (.bool true)
  have np : p ≠ g := by omega
  exact ⟨by simpa using z, fun o => (hb.frozen (p := ⟨p, o, none⟩) z np).trans (f o), ⟨(hb.cell (p := ⟨p, 0, none⟩) z np).trans c0, (hb.cell (p := ⟨p, 1, none⟩) z np).trans c1, (hb.cell (p := ⟨p, 2, none⟩) z np).trans c2, (hb.cell (p := ⟨p, 3, none⟩) z np).trans c3, (hb.cell (p := ⟨p, 4, none⟩) z np).trans c4⟩, k.beside hb (by omega), bo.set, h1, h2, h3⟩
theorem TrAt.below {p lo b g : Nat} {W W' : World} {C I : Int} {c : Nat} {K : Nat → Bool} {h : Int} (t : TrAt p lo b g W C I c K h) (hb : Below W.heap.size W W') : TrAt p lo b g W' C I c K h := by
  obtain ⟨z, f, ⟨c0, c1, c2, c3, c4⟩, k, bo, h1, h2, h3⟩ := t
  exact ⟨Nat.lt_of_lt_of_le z hb.size, fun o => (hb.frozen (p := ⟨p, o, none⟩) z).trans (f o), ⟨(hb.cell (p := ⟨p, 0, none⟩) z).trans c0, (hb.cell (p := ⟨p, 1, none⟩) z).trans c1, (hb.cell (p := ⟨p, 2, none⟩) z).trans c2, (hb.cell (p := ⟨p, 3, none⟩) z).trans c3, (hb.cell (p := ⟨p, 4, none⟩) z).trans c4⟩, k.below hb, bo.below hb, h1, h2, h3⟩
set_option maxHeartbeats 1000000 in
theorem isCell_any (p : Nat) (C N : Int) (w : World) (z : p < w.heap.size) (c0 : 0 ≤ C) (c1 : C ≤ 60) (e : w.cell? ⟨p, 1, none⟩ = some (.int .i64 C)) : Calls Try.prog 58 #[.pointer (some ⟨p, 0, none⟩), .int .i64 N] w fun e w' => e = .returned (.bool (inB 0 (C - 1) N)) ∧ w' = w := by
  go_enter Try.func58, Try.ntmps58
  go_wp2_with fail
  refine (within_is _ _ _ _).mono ?_
  rintro e w1 ⟨rfl, rfl⟩
  go_wp2
  go_ret
  exact ⟨rfl, rfl⟩
set_option maxHeartbeats 1000000 in
theorem lays_any (p : Nat) (h : Int) (w : World) (z : p < w.heap.size) (h0 : 0 ≤ h) (h1 : h ≤ 10) (e : w.cell? ⟨p, 4, none⟩ = some (.int .i64 h)) (f : w.frozen? ⟨p, 4, none⟩ = false) : Calls Try.prog 59 #[.pointer (some ⟨p, 0, none⟩)] w fun e w' => e = .returned (.bool (decide (h + 1 ≤ 10))) ∧ w' = w.setCell ⟨p, 4, none⟩ (.int .i64 (h + 1)) := by
  go_enter Try.func59, Try.ntmps59
  go_wp2
  go_ret
  exact ⟨rfl, rfl⟩
set_option maxHeartbeats 1000000 in
theorem takes_any (p : Nat) (h k : Int) (w : World) (z : p < w.heap.size) (h0 : 0 ≤ h) (h1 : h ≤ 10) (k0 : 0 ≤ k) (k1 : k ≤ 3) (e : w.cell? ⟨p, 4, none⟩ = some (.int .i64 h)) (f : w.frozen? ⟨p, 4, none⟩ = false) : Calls Try.prog 60 #[.pointer (some ⟨p, 0, none⟩), .int .i64 k] w fun e w' => e = .returned (.bool (decide (k ≤ h))) ∧ w' = w.setCell ⟨p, 4, none⟩ (.int .i64 (h - k)) := by
  go_enter Try.func60, Try.ntmps60
  go_wp2
  go_ret
  exact ⟨rfl, rfl⟩
/-- What a test answers and leaves. -/
def MayP (p lo b g : Nat) (W : World) (C I : Int) (c : Nat) (K : Nat → Bool) (h op N : Int) (e : Ending) (w' : World) : Prop := ∃ r, e = .returned (.bool r) ∧ r = ctB C I K h op N ∧ Tw p g W w' ∧ (r = true → TrAt p lo b g w' C I c (nxK K op N) (nxH h op N))
set_option maxRecDepth 20000 in
set_option maxHeartbeats 4000000 in
theorem may2_any (p lo b g : Nat) (C I : Int) (c : Nat) (K : Nat → Bool) (h N : Int) (w : World) (hc : C = (c : Int)) (c1 : C ≤ 60) (i0 : 0 ≤ I) (i1 : I ≤ 60) (h0 : 0 ≤ h) (h1 : h ≤ 10) (HT : Hid (TrAt p lo b g w C I c K h)) :
    Calls Try.prog 47 #[.pointer (some ⟨p, 0, none⟩), .int .i64 N] w fun e w' => MayP p lo b g w C I c K h 2 N e w' := by
  have HT0 := HT.out
  obtain ⟨z, f, ⟨d0, d1, d2, d3, d4⟩, -, bo, -, -, -⟩ := HT0
  have f4 := f 4
  have c0 : 0 ≤ C := by omega
  go_enter Try.func47, Try.ntmps47
  go_wp2_with fail
  refine (isCell_any p C N _ z c0 c1 d1).mono ?_
  rintro e w1 ⟨rfl, rfl⟩
  cases q : inB 0 (C - 1) N
  · have HO : Hid (ctB C I K h 2 N = false) := ct_bounds (show cbB C I 2 N = false from q)
    go_wp2
    go_ret
    exact ⟨false, rfl, HO.out.symm, Tw.refl _ _ _, fun q => by cases q⟩
  have HO : Hid (ctB C I K h 2 N = decide (h + 1 ≤ 10)) := by
    show (cbB C I 2 N && _) = _
    rw [show cbB C I 2 N = true from q]
    show (true && (!(decide ((2 : Int) = 6) && _) && (!(decide ((2 : Int) = 1) && _) && (decide ((0 : Int) ≤ h) && decide (h - 0 + 1 ≤ 10))))) = _
    rw [decide_eq_true h0]
    simp
  have HN : Hid (TrAt p lo b g (w1.setCell ⟨p, 4, none⟩ (.int .i64 (h + 1))) C I c (nxK K 2 N) (nxH h 2 N)) := by
    show TrAt p lo b g _ C I c K (h - 0 + 1)
    rw [Int.sub_zero]
    exact HT.out.setH (h + 1)
  go_wp2_with fail
  refine (lays_any p h _ z h0 h1 d4 f4).mono ?_
  rintro e w2 ⟨rfl, rfl⟩
  go_wp2
  go_ret
  exact ⟨_, rfl, HO.out.symm, Tw.left (Beside.setCell _ _ _ _), fun _ => HN.out⟩
set_option maxRecDepth 20000 in
set_option maxHeartbeats 4000000 in
theorem may3_any (p lo b g : Nat) (C I : Int) (c : Nat) (K : Nat → Bool) (h N : Int) (w : World) (hc : C = (c : Int)) (c1 : C ≤ 60) (i0 : 0 ≤ I) (i1 : I ≤ 60) (h0 : 0 ≤ h) (h1 : h ≤ 10) (HT : Hid (TrAt p lo b g w C I c K h)) :
    Calls Try.prog 49 #[.pointer (some ⟨p, 0, none⟩), .int .i64 N] w fun e w' => MayP p lo b g w C I c K h 3 N e w' := by
  have HT0 := HT.out
  obtain ⟨z, f, ⟨d0, d1, d2, d3, d4⟩, -, bo, -, -, -⟩ := HT0
  have f4 := f 4
  have c0 : 0 ≤ C := by omega
  go_enter Try.func49, Try.ntmps49
  go_wp2_with fail
  refine (within_is _ _ _ _).mono ?_
  rintro e w1 ⟨rfl, rfl⟩
  cases q : inB (-1000000) 1000000 N
  · have HO : Hid (ctB C I K h 3 N = false) := ct_bounds (show cbB C I 3 N = false from q)
    go_wp2
    go_ret
    exact ⟨false, rfl, HO.out.symm, Tw.refl _ _ _, fun q => by cases q⟩
  have HO : Hid (ctB C I K h 3 N = decide (h + 1 ≤ 10)) := by
    show (cbB C I 3 N && _) = _
    rw [show cbB C I 3 N = true from q]
    show (true && (!(decide ((3 : Int) = 6) && _) && (!(decide ((3 : Int) = 1) && _) && (decide ((0 : Int) ≤ h) && decide (h - 0 + 1 ≤ 10))))) = _
    rw [decide_eq_true h0]
    simp
  have HN : Hid (TrAt p lo b g (w1.setCell ⟨p, 4, none⟩ (.int .i64 (h + 1))) C I c (nxK K 3 N) (nxH h 3 N)) := by
    show TrAt p lo b g _ C I c K (h - 0 + 1)
    rw [Int.sub_zero]
    exact HT.out.setH (h + 1)
  go_wp2_with fail
  refine (lays_any p h _ z h0 h1 d4 f4).mono ?_
  rintro e w2 ⟨rfl, rfl⟩
  go_wp2
  go_ret
  exact ⟨_, rfl, HO.out.symm, Tw.left (Beside.setCell _ _ _ _), fun _ => HN.out⟩
set_option maxRecDepth 20000 in
set_option maxHeartbeats 4000000 in
theorem may4_any (p lo b g : Nat) (C I : Int) (c : Nat) (K : Nat → Bool) (h N : Int) (w : World) (hc : C = (c : Int)) (c1 : C ≤ 60) (i0 : 0 ≤ I) (i1 : I ≤ 60) (h0 : 0 ≤ h) (h1 : h ≤ 10) (HT : Hid (TrAt p lo b g w C I c K h)) :
    Calls Try.prog 51 #[.pointer (some ⟨p, 0, none⟩), .int .i64 N] w fun e w' => MayP p lo b g w C I c K h 4 N e w' := by
  have HT0 := HT.out
  obtain ⟨z, f, ⟨d0, d1, d2, d3, d4⟩, -, bo, -, -, -⟩ := HT0
  have f4 := f 4
  have c0 : 0 ≤ C := by omega
  go_enter Try.func51, Try.ntmps51
  go_wp2_with fail
  refine (within_is _ _ _ _).mono ?_
  rintro e w1 ⟨rfl, rfl⟩
  cases q : inB 0 (I - 1) N
  · have HO : Hid (ctB C I K h 4 N = false) := ct_bounds (show cbB C I 4 N = false from q)
    go_wp2
    go_ret
    exact ⟨false, rfl, HO.out.symm, Tw.refl _ _ _, fun q => by cases q⟩
  have HO : Hid (ctB C I K h 4 N = decide (h + 1 ≤ 10)) := by
    show (cbB C I 4 N && _) = _
    rw [show cbB C I 4 N = true from q]
    show (true && (!(decide ((4 : Int) = 6) && _) && (!(decide ((4 : Int) = 1) && _) && (decide ((0 : Int) ≤ h) && decide (h - 0 + 1 ≤ 10))))) = _
    rw [decide_eq_true h0]
    simp
  have HN : Hid (TrAt p lo b g (w1.setCell ⟨p, 4, none⟩ (.int .i64 (h + 1))) C I c (nxK K 4 N) (nxH h 4 N)) := by
    show TrAt p lo b g _ C I c K (h - 0 + 1)
    rw [Int.sub_zero]
    exact HT.out.setH (h + 1)
  go_wp2_with fail
  refine (lays_any p h _ z h0 h1 d4 f4).mono ?_
  rintro e w2 ⟨rfl, rfl⟩
  go_wp2
  go_ret
  exact ⟨_, rfl, HO.out.symm, Tw.left (Beside.setCell _ _ _ _), fun _ => HN.out⟩
set_option maxRecDepth 20000 in
set_option maxHeartbeats 4000000 in
theorem may1_any (p lo b g : Nat) (C I : Int) (c : Nat) (K : Nat → Bool) (h N : Int) (w : World) (hc : C = (c : Int)) (c1 : C ≤ 60) (i0 : 0 ≤ I) (i1 : I ≤ 60) (h0 : 0 ≤ h) (h1 : h ≤ 10) (HT : Hid (TrAt p lo b g w C I c K h)) :
    Calls Try.prog 45 #[.pointer (some ⟨p, 0, none⟩), .int .i64 N] w fun e w' => MayP p lo b g w C I c K h 1 N e w' := by
  have HT0 := HT.out
  obtain ⟨z, f, ⟨d0, d1, d2, d3, d4⟩, -, bo, -, -, -⟩ := HT0
  have f4 := f 4
  have c0 : 0 ≤ C := by omega
  go_enter Try.func45, Try.ntmps45
  go_wp2_with fail
  refine (isCell_any p C N _ z c0 c1 d1).mono ?_
  rintro e w1 ⟨rfl, rfl⟩
  cases q : inB 0 (C - 1) N
  · have HO : Hid (ctB C I K h 1 N = false) := ct_bounds (show cbB C I 1 N = false from q)
    go_wp2
    go_ret
    exact ⟨false, rfl, HO.out.symm, Tw.refl _ _ _, fun q => by cases q⟩
  obtain ⟨n0, n1⟩ := inB_yes q
  obtain ⟨M, rfl⟩ : ∃ M : Nat, N = (M : Int) := ⟨N.toNat, by omega⟩
  have mc : (M : Int) < (c : Int) := by omega
  obtain ⟨zg, gf, gc⟩ := bo
  have cM := gc M (by omega)
  clear gc gf n0 n1
  cases hM : K M
  · rw [hM] at cM
    have HO : Hid (ctB C I K h 1 (M : Int) = false) := by show _ = _; unfold ctB; rw [Int.toNat_natCast, hM]; simp
    go_wp2
    go_ret
    exact ⟨false, rfl, HO.out.symm, Tw.refl _ _ _, fun q => by cases q⟩
  rw [hM] at cM
  have HO : Hid (ctB C I K h 1 (M : Int) = decide (h + 1 ≤ 10)) := by
    show (cbB C I 1 (M : Int) && _) = _
    rw [show cbB C I 1 (M : Int) = true from q]
    show (true && (!(decide ((1 : Int) = 6) && _) && (!(decide ((1 : Int) = 1) && !K (M : Int).toNat) && (decide ((0 : Int) ≤ h) && decide (h - 0 + 1 ≤ 10))))) = _
    rw [decide_eq_true h0, Int.toNat_natCast, hM]
    simp
  have HN : Hid (TrAt p lo b g (w1.setCell ⟨p, 4, none⟩ (.int .i64 (h + 1))) C I c (nxK K 1 (M : Int)) (nxH h 1 (M : Int))) := by
    show TrAt p lo b g _ C I c K (h - 0 + 1)
    rw [Int.sub_zero]
    exact HT.out.setH (h + 1)
  clear q
  go_wp2_with fail
  refine (lays_any p h _ z h0 h1 d4 f4).mono ?_
  rintro e w2 ⟨rfl, rfl⟩
  go_wp2
  go_ret
  exact ⟨_, rfl, HO.out.symm, Tw.left (Beside.setCell _ _ _ _), fun _ => HN.out⟩
set_option maxRecDepth 20000 in
set_option maxHeartbeats 4000000 in
theorem may6_any (p lo b g : Nat) (C I : Int) (c : Nat) (K : Nat → Bool) (h N : Int) (w : World) (hc : C = (c : Int)) (c1 : C ≤ 60) (i0 : 0 ≤ I) (i1 : I ≤ 60) (h0 : 0 ≤ h) (h1 : h ≤ 10) (HT : Hid (TrAt p lo b g w C I c K h)) :
    Calls Try.prog 55 #[.pointer (some ⟨p, 0, none⟩), .int .i64 N] w fun e w' => MayP p lo b g w C I c K h 6 N e w' := by
  have HT0 := HT.out
  obtain ⟨z, f, ⟨d0, d1, d2, d3, d4⟩, -, bo, -, -, -⟩ := HT0
  have f4 := f 4
  have c0 : 0 ≤ C := by omega
  go_enter Try.func55, Try.ntmps55
  go_wp2_with fail
  refine (isCell_any p C N _ z c0 c1 d1).mono ?_
  rintro e w1 ⟨rfl, rfl⟩
  cases q : inB 0 (C - 1) N
  · have HO : Hid (ctB C I K h 6 N = false) := ct_bounds (show cbB C I 6 N = false from q)
    go_wp2
    go_ret
    exact ⟨false, rfl, HO.out.symm, Tw.refl _ _ _, fun q => by cases q⟩
  obtain ⟨n0, n1⟩ := inB_yes q
  obtain ⟨M, rfl⟩ : ∃ M : Nat, N = (M : Int) := ⟨N.toNat, by omega⟩
  have mc : (M : Int) < (c : Int) := by omega
  obtain ⟨zg, gf, gc⟩ := bo
  have cM := gc M (by omega)
  have gM := gf M
  clear gc gf n0 n1
  cases hM : K M
  case true =>
    rw [hM] at cM
    have HO : Hid (ctB C I K h 6 (M : Int) = false) := by show _ = _; unfold ctB; rw [Int.toNat_natCast, hM]; simp
    go_wp2
    go_ret
    exact ⟨false, rfl, HO.out.symm, Tw.refl _ _ _, fun q => by cases q⟩
  rw [hM] at cM
  have HO : Hid (ctB C I K h 6 (M : Int) = decide (1 ≤ h)) := by
    show (cbB C I 6 (M : Int) && _) = _
    rw [show cbB C I 6 (M : Int) = true from q]
    show (true && (!(decide ((6 : Int) = 6) && K (M : Int).toNat) && (!(decide ((6 : Int) = 1) && _) && (decide ((1 : Int) ≤ h) && decide (h - 1 + 0 ≤ 10))))) = _
    rw [Int.toNat_natCast, hM, decide_eq_true (p := h - 1 + 0 ≤ 10) (by omega)]
    simp
  have HK := HT.out.setK M
  have HN : Hid (TrAt p lo b g ((w1.setCell ⟨g, M, none⟩ (.bool true)).setCell ⟨p, 4, none⟩ (.int .i64 (h - 1))) C I c (nxK K 6 (M : Int)) (nxH h 6 (M : Int))) := by
    show TrAt p lo b g _ C I c (fun j => decide (j = (M : Int).toNat) || K j) (h - 1 + 0)
    rw [Int.add_zero, Int.toNat_natCast]
    exact HK.setH (h - 1)
  have TT : Hid (Tw p g w1 ((w1.setCell ⟨g, M, none⟩ (.bool true)).setCell ⟨p, 4, none⟩ (.int .i64 (h - 1)))) := (Tw.right (Beside.setCell _ _ _ _)).trans (Tw.left (Beside.setCell _ _ _ _))
  obtain ⟨z', f', ⟨-, -, -, -, d4'⟩, -⟩ := HK
  have f4' := f' 4
  clear q
  go_upto_region 4 with fail
  obtain ⟨wd, hwd⟩ : ∃ wd, wd = w1.setCell ⟨g, M, none⟩ (.bool true) := ⟨_, rfl⟩
  rw [← hwd] at z' f4' d4' HN TT ⊢
  clear hwd
  go_wp2_with fail
  refine (takes_any p h 1 _ z' h0 h1 (by omega) (by omega) d4' f4').mono ?_
  rintro e w2 ⟨rfl, rfl⟩
  go_wp2
  go_ret
  exact ⟨_, rfl, HO.out.symm, TT.out, fun _ => HN.out⟩
set_option maxRecDepth 20000 in
set_option maxHeartbeats 4000000 in
theorem may5_any (p lo b g : Nat) (C I : Int) (c : Nat) (K : Nat → Bool) (h N : Int) (w : World) (hc : C = (c : Int)) (c1 : C ≤ 60) (i0 : 0 ≤ I) (i1 : I ≤ 60) (h0 : 0 ≤ h) (h1 : h ≤ 10) (HT : Hid (TrAt p lo b g w C I c K h)) :
    Calls Try.prog 53 #[.pointer (some ⟨p, 0, none⟩), .int .i64 N] w fun e w' => MayP p lo b g w C I c K h 5 N e w' := by
  have HT0 := HT.out
  obtain ⟨z, f, ⟨d0, d1, d2, d3, d4⟩, kt, bo, -, -, -⟩ := HT0
  have f4 := f 4
  have c0 : 0 ≤ C := by omega
  go_enter Try.func53, Try.ntmps53
  go_wp2_with fail
  refine (within_is _ _ _ _).mono ?_
  rintro e w1 ⟨rfl, rfl⟩
  cases q : inB 5 16 N
  · have HO : Hid (ctB C I K h 5 N = false) := ct_bounds (show cbB C I 5 N = false from q)
    go_wp2
    go_ret
    exact ⟨false, rfl, HO.out.symm, Tw.refl _ _ _, fun q => by cases q⟩
  obtain ⟨n0, n1⟩ := inB_yes q
  obtain ⟨M, rfl⟩ : ∃ M : Nat, N = (M : Int) + 1 := ⟨(N - 1).toNat, by omega⟩
  obtain ⟨-, zb, kc⟩ := kt
  obtain ⟨-, -, ⟨y, t2, -, -⟩, -, -⟩ := kc M (by omega)
  have eM : (M : Int) + 1 - 1 = (M : Int) := by omega
  have m21 : (M : Int) < 21 := by omega
  have tl := tkL_le M
  have eT : tkO 5 ((M : Int) + 1) = ((tkL M).length : Int) := by unfold tkO; rw [if_pos rfl, show ((M : Int) + 1).toNat - 1 = M by omega]
  obtain ⟨L, hL⟩ : ∃ L, (tkL M).length = L := ⟨_, rfl⟩
  rw [hL] at t2 tl eT
  clear hL kc
  have HO : Hid (ctB C I K h 5 ((M : Int) + 1) = (decide ((L : Int) ≤ h) && decide (h - (L : Int) + 1 ≤ 10))) := by
    show (cbB C I 5 ((M : Int) + 1) && _) = _
    rw [show cbB C I 5 ((M : Int) + 1) = true from q, eT]
    show (true && (!(decide ((5 : Int) = 6) && _) && (!(decide ((5 : Int) = 1) && _) && (decide ((L : Int) ≤ h) && decide (h - (L : Int) + 1 ≤ 10))))) = _
    simp
  have HK := HT.out.setH (h - (L : Int))
  have HN : Hid (TrAt p lo b g ((w1.setCell ⟨p, 4, none⟩ (.int .i64 (h - (L : Int)))).setCell ⟨p, 4, none⟩ (.int .i64 (h - (L : Int) + 1))) C I c (nxK K 5 ((M : Int) + 1)) (nxH h 5 ((M : Int) + 1))) := by
    have : nxH h 5 ((M : Int) + 1) = h - (L : Int) + 1 := by unfold nxH; rw [eT]; rfl
    rw [this]
    exact HK.setH (h - (L : Int) + 1)
  have TT : Hid (Tw p g w1 ((w1.setCell ⟨p, 4, none⟩ (.int .i64 (h - (L : Int)))).setCell ⟨p, 4, none⟩ (.int .i64 (h - (L : Int) + 1)))) := (Tw.left (Beside.setCell _ _ _ _)).trans (Tw.left (Beside.setCell _ _ _ _))
  have TS : Hid (Tw p g w1 (w1.setCell ⟨p, 4, none⟩ (.int .i64 (h - (L : Int))))) := Tw.left (Beside.setCell _ _ _ _)
  obtain ⟨z', f', ⟨-, -, -, -, d4'⟩, -⟩ := HK
  have f4' := f' 4
  clear q eT
  have l0 : (0 : Int) ≤ (L : Int) := by omega
  have l3 : (L : Int) ≤ 3 := by omega
  go_wp2_with fail
  refine (takes_any p h (L : Int) _ z h0 h1 l0 l3 d4 f4).mono ?_
  rintro e w2 ⟨rfl, rfl⟩
  obtain ⟨wd, hwd⟩ : ∃ wd, wd = w1.setCell ⟨p, 4, none⟩ (.int .i64 (h - (L : Int))) := ⟨_, rfl⟩
  rw [← hwd] at z' f4' d4' HN TT TS ⊢
  clear hwd
  by_cases hd : (L : Int) ≤ h
  case neg =>
    have bd : decide ((L : Int) ≤ h) = false := decide_eq_false hd
    rw [bd] at HO ⊢
    go_wp2
    go_ret
    exact ⟨false, rfl, HO.out.symm, TS.out, fun q => by cases q⟩
  have bd : decide ((L : Int) ≤ h) = true := decide_eq_true hd
  rw [bd] at HO ⊢
  clear bd
  go_wp2_with fail
  refine (lays_any p (h - (L : Int)) _ z' (by omega) (by omega) d4' f4').mono ?_
  rintro e w2 ⟨rfl, rfl⟩
  go_wp2
  go_ret
  exact ⟨_, rfl, HO.out.symm, TT.out, fun _ => HN.out⟩
end Go.Proofs.Ytdidgbibbkhnhaa
