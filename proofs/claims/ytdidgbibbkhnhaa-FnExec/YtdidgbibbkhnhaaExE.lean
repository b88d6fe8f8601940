/-
What is proved: DrawExec: any code, any cells, any inputs, none of them long.
-/
import Derived.Test.YtdidgbibbkhnhaaInD
import Derived.Test.YtdidgbibbkhnhaaRdC
namespace Go.Proofs.Ytdidgbibbkhnhaa
set_option maxRecDepth 40000
open Go.ChangeShapes Go.WideShapes Go.ChangeAt Go.RowKit
set_option linter.unusedVariables false
set_option linter.unusedSimpArgs false

/-- A list of m int64s, beside a reader at p. -/
def LiS (w0 : World) (r : Nat) (s : Option Addr) (n c b p m : Nat) (u : Value) (W : World) : Prop := Rd W r s n c p ∧ Beside r w0 W ∧ (∃ U, W.ownsRow b 2 1 u m (vals U m)) ∧ w0.heap.size ≤ b ∧ r < b ∧ b ≤ W.heap.size
theorem LiS.read {w0 : World} {r : Nat} {s : Option Addr} {n c b p p' m : Nat} {u : Value} {W W' : World} (h : LiS w0 r s n c b p m u W) (hR : Rd W' r s n c p') (hb : Beside r W W') : LiS w0 r s n c b p' m u W' := by
  obtain ⟨h1, h2, ⟨Y, h4⟩, h5, h6, h7⟩ := h
  exact ⟨hR, h2.trans hb, ⟨Y, own_keptI h4 (fun g hg hz => hb.2.2.2.2 g hz (by omega))⟩, h5, h6, Nat.le_trans h7 hb.2.2.2.1⟩
theorem li_num {ops : Array Oper} {rest : List Oper} {o : Oper} {a : Act} {Q : Exit → Act → World → Prop} {W : World} {tt : TypeId} {x : Int} {w0 : World} {r : Nat} {sr : Option Addr} {n c b p m : Nat} {u : Value} (s z : Operand) (hgd : o.guard = none)
    (ho : o.op = .call { callee := .builtin .append, args := #[s, z], argTypes := #[25, 25] }) (hs : a.eval s = u) (hx : a.eval z = .slice (some ⟨W.heap.size, 0, none⟩) 1 1) (hown : LiS w0 r sr n c b p m u W) (hk : m ≤ 10000000)
    (h : ∀ g cap w', LiS w0 r sr n c b p (m + 1) (.slice (some ⟨g, 0, none⟩) (m + 1) cap) w' → wpList Try.prog ops Q rest (a.put o.dst (.slice (some ⟨g, 0, none⟩) (m + 1) cap)) w') :
    wpList Try.prog ops Q (o :: rest) a (W.alloc (.cells #[.int .i64 x] tt)) := by
  obtain ⟨i0, hi, hz0, hz1, hz2⟩ := info_parts info_i64
  obtain ⟨h1, h2, ⟨Y, h4⟩, h5, h6, h7⟩ := hown
  refine wpList_append_lies _ hgd s z 25 ho b 2 i0 (.int .i64 0) 1 8 Try.underlying25 hi hz0 hz1 hz2 rfl (by decide) u m _ hs (h4.alloc _) ⟨W.heap.size, 0, none⟩ 1 1 [.int .i64 x] hx rfl (newsOne _ _ _) ?_ (by decide) (by unfold maxLen; omega) (by omega) (by simp; omega) _ rfl ?_
  · intro q hq
    simp at hq
    subst hq; rfl
  · intro g cap w' q1 q2 _ q3
    have gr := grown_new q2
    have bb : Below b W w' := grown_below gr h7 (own_block h4)
    exact h g cap w' ⟨h1.below' (bb.mono h6), h2.onB (bb.mono h5), ⟨_, by rw [vals1 Y m x]; exact q1⟩, h5, h6, Nat.le_trans h7 bb.size⟩
theorem LiS.row {w0 : World} {r : Nat} {s : Option Addr} {n c b p m : Nat} {u : Value} {W : World} (h : LiS w0 r s n c b p m u W) : ∃ t cap U, u = .slice t m cap ∧ OwnI b W t m U := by
  obtain ⟨h1, h2, ⟨U, h3⟩, h5, h6, h7⟩ := h
  obtain ⟨t, cap, e, ho⟩ := own_OwnI (size := 1) (U := U) (by rw [Nat.mul_one]; exact h3)
  rw [Nat.mul_one] at ho
  exact ⟨t, cap, U, e, ho⟩
theorem LiS.lit {W : World} {r : Nat} {s : Option Addr} {n c p : Nat} (h : Rd W r s n c p) : LiS W r s n c W.heap.size p 0 (.slice (some ⟨W.heap.size, 0, none⟩) 0 0) (W.alloc (.cells #[] 2)) := by
  have bb : Below W.heap.size W (W.alloc (.cells #[] 2)) := below0 _ _
  refine ⟨h.below bb, Beside.of bb, ⟨fun _ => 0, ?_⟩, Nat.le_refl _, h.1, bb.size⟩
  have := World.ownsRow_lit (base := W.heap.size) (size := 1) (e := 2) W #[] 0 (Nat.le_refl _) (by simp [maxLen]) (by simp)
  simpa [vals] using this
theorem OwnI.besd {base r : Nat} {w w' : World} {s : Option Addr} {m : Nat} {V : Nat → Int} (h : OwnI base w s m V) (hb : Beside r w w') (hr : r < base) : OwnI base w' s m V := fun j hj => by
  obtain ⟨b, e, hB, hl, hc, hf⟩ := h j hj
  exact ⟨b, e, hB, Nat.lt_of_lt_of_le hl hb.2.2.2.1, (hb.cell (p := ⟨b, j, none⟩) hl (by simp only; omega)).trans hc, (hb.frozen (p := ⟨b, j, none⟩) hl (by simp only; omega)).trans hf⟩
def DePost (w : World) (e : Ending) (w' : World) : Prop := ∃ (t : Option Addr) (k cap : Nat) (U : Nat → Int) (so : Option Addr) (a ca : Nat) (O : Nat → Int) (si : Option Addr) (ni ci : Nat) (I : Nat → Int), e = .returned (.tuple #[.slice t k cap, .slice so a ca, .slice si ni ci]) ∧ ((k : Int) ≤ 1048576 ∧ k ≤ cap) ∧ a ≤ 20 ∧ ni ≤ 20 ∧ RowI w' t (k * 2) U ∧ RowI w' so a O ∧ RowI w' si ni I ∧ Below w.heap.size w w'
theorem RowI.bes {g : Nat} {w w' : World} {s : Option Addr} {m : Nat} {V : Nat → Int} (h : RowI w s m V) (hb : Beside g w w') (hg : ∀ b o, s = some ⟨b, o, none⟩ → b ≠ g) : RowI w' s m V := fun j hj => by
  obtain ⟨b, o, e, hl, hc⟩ := h j hj
  exact ⟨b, o, e, Nat.lt_of_lt_of_le hl hb.2.2.2.1, (hb.cell (p := ⟨b, o + j, none⟩) hl (hg b o e)).trans hc⟩
set_option maxRecDepth 20000 in
set_option maxHeartbeats 8000000 in
theorem drawExec_any {s : Option Addr} {n c : Nat} {w : World} (h : Hid (Code8 w s n)) : Calls Try.prog 7 #[.slice s n c] w fun e w' => DePost w e w' := by
  go_enter Try.func7, Try.ntmps7
  go_wp2_with fail
  refine (open_any (h.out.below (by repeat (first | with_reducible exact Below.refl _ _ | with_reducible refine Below.setCell ?_ (by first | omega | (simp; done) | (simp; omega)) _ | with_reducible refine bDrewN ?_ _ | with_reducible refine Below.drew ?_ | with_reducible refine Below.alloc ?_ (by first | omega | (simp; done) | (simp; omega)) _)))).mono ?_
  rintro e w1 ⟨rfl, R_, b_⟩
  have HR : Hid (Rd w1 w.heap.size s n c 0) := R_
  have HB : Hid (Below w.heap.size w w1) := b_
  clear R_ b_ h
  go_wp2_with fail
  refine (below_m 8 HR.out).mono ?_
  rintro e w2 ⟨x, p2, rfl, x0, x1, x2, -, R_, b_⟩
  replace HR : Hid (Rd w2 w.heap.size s n c p2) := R_
  replace HB : Hid (Below w.heap.size w w2) := HB.out.trans (b_.below (Nat.le_refl _) HB.out.size)
  clear R_ b_
  go_wp2_with fail
  refine (below_m 4 HR.out).mono ?_
  rintro e w3 ⟨y, p3, rfl, y0, y1, y2, -, R_, b_⟩
  replace HR : Hid (Rd w3 w.heap.size s n c p3) := R_
  replace HB : Hid (Below w.heap.size w w3) := HB.out.trans (b_.below (Nat.le_refl _) HB.out.size)
  clear R_ b_
  obtain ⟨C, hC⟩ : ∃ C : Nat, 1 + x = (C : Int) := ⟨(1 + x).toNat, by omega⟩
  obtain ⟨Y, rfl⟩ : ∃ Y : Nat, y = (Y : Int) := ⟨y.toNat, by omega⟩
  have C1 : 1 ≤ C := by omega
  have C8 : C ≤ 8 := by omega
  have Y3 : Y ≤ 3 := by omega
  clear x0 x1 x2 y0 y1 y2
  go_wp2_with fail
  try rw [hC]
  clear hC
  refine (instrs_any (C : Int) (Y : Int) (by omega) (by omega) (by omega) (by omega) HR).mono ?_
  rintro e w4 hP
  unfold InPost at hP
  obtain ⟨t, k, cap, U, p4, rfl, k1, hO, R_, b_⟩ := hP
  have zr3 : w.heap.size < w3.heap.size := HR.out.1
  have HO : Hid (OwnI w3.heap.size w4 t (k * 2) U) := hO
  replace HR : Hid (Rd w4 w.heap.size s n c p4) := R_
  replace HB : Hid (Below w.heap.size w w4) := HB.out.trans (b_.below (Nat.le_refl _) HB.out.size)
  have z34 : w3.heap.size ≤ w4.heap.size := b_.2.2.2.1
  have HLT : Hid (∀ b, t = some ⟨b, 0, none⟩ → 0 < k → b < w4.heap.size) := fun b e hk => by
    obtain ⟨b', e', _, hl, _⟩ := hO 0 (by omega)
    rw [e] at e'
    cases e'
    exact hl
  clear R_ b_ hO
  go_upto_region 6 with fail
  obtain ⟨w5, hw5⟩ : ∃ z, z = w4.alloc (.cells #[] 2) := ⟨_, rfl⟩
  rw [← hw5]
  have HL : Hid (LiS w4 w.heap.size s n c w4.heap.size p4 0 (.slice (some ⟨w4.heap.size, 0, none⟩) 0 0) w5) := by rw [hw5]; exact LiS.lit HR.out
  clear hw5
  go_wp2_with fail
  go_loopw [9, 10] (fun u i wx => ∃ (m p : Nat), m ≤ C ∧ i = .int .i64 (m : Int) ∧ Hid (LiS w4 w.heap.size s n c w4.heap.size p m u wx)) (fun _ i _ => C - (intOf i).toNat)
  case atStart => exact ⟨0, p4, by omega, rfl, HL⟩
  case round =>
  clear HL HR
  obtain ⟨m, p5, hm, rfl, HL⟩ := hrel
  rename World => wa
  by_cases hlt : m < C
  case pos =>
    have m1 : (m : Int) < (C : Int) := by omega
    go_wp2_with fail
    refine (near_m (-9) 9 (by omega) (by omega) (by omega) (by omega) HL.out.1).mono ?_
    rintro e wb ⟨z, p6, rfl, -, -, -, -, R_, b_⟩
    replace HL : Hid (LiS w4 w.heap.size s n c w4.heap.size p6 m u9 wb) := HL.out.read R_ b_
    clear R_ b_
    go_wp2_with (first | (at_builtin; refine li_num _ _ (by rfl) (by rfl) (by rfl) (by rfl) HL.out (by omega) ?_; intro g8 cap8 w8 h8))
    have HL8 : Hid (LiS w4 w.heap.size s n c w4.heap.size p6 (m + 1) (.slice (some ⟨g8, 0, none⟩) (m + 1) cap8) w8) := h8
    clear h8
    go_roundw
    case rel => exact ⟨m + 1, p6, by omega, by go_num, HL8⟩
    case measure => simp [intOf]; omega
  case neg =>
  obtain rfl : m = C := by omega
  obtain ⟨so, ca, O, e9, hOo⟩ := HL.out.row
  subst e9
  have HOo : Hid (OwnI w4.heap.size wa so m O) := hOo
  have zr4 : w.heap.size < w4.heap.size := HL.out.2.2.2.2.1
  have z4a : w4.heap.size ≤ wa.heap.size := HL.out.2.2.2.2.2
  replace HO : Hid (OwnI w3.heap.size wa t (k * 2) U) := HO.out.besd HL.out.2.1 zr3
  replace HB : Hid (Below w.heap.size w wa) := HB.out.trans (HL.out.2.1.below (Nat.le_refl _) HB.out.size)
  have HR : Hid (Rd wa w.heap.size s n c p5) := HL.out.1
  have OLT := HLT
  have GLT : Hid (∀ b, so = some ⟨b, 0, none⟩ → 0 < m → b < wa.heap.size) := fun b e hk => by
    obtain ⟨b', e', _, hl, _⟩ := hOo 0 (by omega)
    rw [e] at e'
    cases e'
    exact hl
  clear HL hm hlt hOo
  have nlt : ¬ (m : Int) < (m : Int) := by omega
  go_upto_region 11 with fail
  obtain ⟨wc, hwc⟩ : ∃ z, z = wa.alloc (.cells #[] 2) := ⟨_, rfl⟩
  rw [← hwc]
  have HL : Hid (LiS wa w.heap.size s n c wa.heap.size p5 0 (.slice (some ⟨wa.heap.size, 0, none⟩) 0 0) wc) := by rw [hwc]; exact LiS.lit HR.out
  clear hwc
  go_wp2_with fail
  go_loopw [11, 12] (fun u i wx => ∃ (j p : Nat), j ≤ Y ∧ i = .int .i64 (j : Int) ∧ Hid (LiS wa w.heap.size s n c wa.heap.size p j u wx)) (fun _ i _ => Y - (intOf i).toNat)
  case atStart => exact ⟨0, p5, by omega, rfl, HL⟩
  case round =>
  clear HL HR
  obtain ⟨j, p7, hj, rfl, HL⟩ := hrel
  rename World => wd
  by_cases hlt : j < Y
  case pos =>
    have m1 : (j : Int) < (Y : Int) := by omega
    go_wp2_with fail
    refine (near_m (-9) 9 (by omega) (by omega) (by omega) (by omega) HL.out.1).mono ?_
    rintro e wb ⟨z, p6, rfl, -, -, -, -, R_, b_⟩
    replace HL : Hid (LiS wa w.heap.size s n c wa.heap.size p6 j u11 wb) := HL.out.read R_ b_
    clear R_ b_
    go_wp2_with (first | (at_builtin; refine li_num _ _ (by rfl) (by rfl) (by rfl) (by rfl) HL.out (by omega) ?_; intro g8 cap8 w8 h8))
    have HL8 : Hid (LiS wa w.heap.size s n c wa.heap.size p6 (j + 1) (.slice (some ⟨g8, 0, none⟩) (j + 1) cap8) w8) := h8
    clear h8
    go_roundw
    case rel => exact ⟨j + 1, p6, by omega, by go_num, HL8⟩
    case measure => simp [intOf]; omega
  case neg =>
  obtain rfl : j = Y := by omega
  have nlt : ¬ (j : Int) < (j : Int) := by omega
  have zra : w.heap.size < wa.heap.size := by omega
  clear hj hlt
  go_wp2_with fail
  refine (below_m 16 HL.out.1).mono ?_
  rintro e we ⟨x, p8, rfl, x0, x1, x2, -, R_, b_⟩
  replace HL : Hid (LiS wa w.heap.size s n c wa.heap.size p8 j u11 we) := HL.out.read R_ b_
  clear R_ b_
  by_cases e0 : x = 0
  case pos =>
    subst e0
    clear x0 x1 x2
    go_wp2_with fail
    refine (off_any (-1000000) 1000000 (by omega) (by omega) (by omega) HL.out.1).mono ?_
    rintro e wf ⟨z, p9, rfl, -, R_, b_⟩
    replace HL : Hid (LiS wa w.heap.size s n c wa.heap.size p9 j u11 wf) := HL.out.read R_ b_
    clear R_ b_
    obtain ⟨si, ci, I, e9, hI⟩ := HL.out.row
    subst e9
    replace HO : Hid (OwnI w3.heap.size wf t (k * 2) U) := HO.out.besd HL.out.2.1 zr3
    replace HOo : Hid (OwnI w4.heap.size wf so m O) := HOo.out.besd HL.out.2.1 zr4
    replace HB : Hid (Below w.heap.size w wf) := HB.out.trans (HL.out.2.1.below (Nat.le_refl _) HB.out.size)
    obtain ⟨g, e9, gb, gl, gc, gf⟩ := HOo.out 0 (by omega)
    subst e9
    have m0 : (0 : Int) < (m : Int) := by omega
    have gl2 : g < wa.heap.size := GLT.out g rfl (by omega)
    have bs : Beside g wf (wf.setCell ⟨g, 0, none⟩ (.int .i64 z)) := Beside.setCell g wf _ _
    have F1 : RowI (wf.setCell ⟨g, 0, none⟩ (.int .i64 z)) t (k * 2) U := fun j hj => by
      obtain ⟨b, e, hB, hl, hc, hf⟩ := HO.out j hj
      have := OLT.out b e (by omega)
      refine ⟨b, 0, e, Nat.lt_of_lt_of_le hl bs.2.2.2.1, ?_⟩
      rw [Nat.zero_add]
      exact (bs.cell (p := ⟨b, j, none⟩) hl (by simp only; omega)).trans hc
    have F2 := (HOo.out.putI 0 z).row
    have F3 : RowI (wf.setCell ⟨g, 0, none⟩ (.int .i64 z)) si j I := fun q hq => by
      obtain ⟨b, e, hB, hl, hc, hf⟩ := hI q hq
      refine ⟨b, 0, e, Nat.lt_of_lt_of_le hl bs.2.2.2.1, ?_⟩
      rw [Nat.zero_add]
      exact (bs.cell (p := ⟨b, q, none⟩) hl (by simp only; omega)).trans hc
    have BF : Below w.heap.size w (wf.setCell ⟨g, 0, none⟩ (.int .i64 z)) := HB.out.trans (bs.below (by omega) HB.out.size)
    clear hI gb gl
    go_wp2
    exact bodyPost_ret (v := .tuple #[.slice t k cap, .slice (some ⟨g, 0, none⟩) m ca, .slice si j ci]) (by simp [results, Try.results7, go_sem]) rfl ⟨t, k, cap, U, _, m, ca, _, si, j, ci, I, rfl, k1, by omega, by omega, F1, F2, F3, BF⟩
  case neg =>
  have n0 : (x == 0) = false := by simpa using e0
  by_cases e1 : x = 1
  case pos =>
    subst e1
    clear x0 x1 x2
    go_wp2_with fail
    refine (off_any (-1000000) 1000000 (by omega) (by omega) (by omega) HL.out.1).mono ?_
    rintro e wf ⟨z, p9, rfl, -, R_, b_⟩
    replace HL : Hid (LiS wa w.heap.size s n c wa.heap.size p9 j u11 wf) := HL.out.read R_ b_
    clear R_ b_
    go_wp2_with (first | (at_builtin; refine li_num _ _ (by rfl) (by rfl) (by rfl) (by rfl) HL.out (by omega) ?_; intro g8 cap8 w8 h8))
    have HL8 : Hid (LiS wa w.heap.size s n c wa.heap.size p9 (j + 1) (.slice (some ⟨g8, 0, none⟩) (j + 1) cap8) w8) := h8
    clear h8
    obtain ⟨si, ci, I, e9, hI⟩ := HL8.out.row
    cases e9
    have F1 := (HO.out.besd HL8.out.2.1 zr3).row
    have F2 := (HOo.out.besd HL8.out.2.1 zr4).row
    have F3 := hI.row
    have BF : Below w.heap.size w w8 := HB.out.trans (HL8.out.2.1.below (Nat.le_refl _) HB.out.size)
    clear hI
    go_wp2
    exact bodyPost_ret (v := .tuple #[.slice t k cap, .slice so m ca, .slice (some ⟨g8, 0, none⟩) (j + 1) cap8]) (by simp [results, Try.results7, go_sem]) rfl ⟨t, k, cap, U, so, m, ca, O, _, j + 1, cap8, I, rfl, k1, by omega, by omega, F1, F2, F3, BF⟩
  case neg =>
    have n1 : (x == 1) = false := by simpa using e1
    obtain ⟨si, ci, I, e9, hI⟩ := HL.out.row
    subst e9
    have F1 := (HO.out.besd HL.out.2.1 zr3).row
    have F2 := (HOo.out.besd HL.out.2.1 zr4).row
    have F3 := hI.row
    have BF : Below w.heap.size w we := HB.out.trans (HL.out.2.1.below (Nat.le_refl _) HB.out.size)
    clear hI e0 e1
    go_wp2
    exact bodyPost_ret (v := .tuple #[.slice t k cap, .slice so m ca, .slice si j ci]) (by simp [results, Try.results7, go_sem]) rfl ⟨t, k, cap, U, so, m, ca, O, si, j, ci, I, rfl, k1, by omega, by omega, F1, F2, F3, BF⟩
end Go.Proofs.Ytdidgbibbkhnhaa
