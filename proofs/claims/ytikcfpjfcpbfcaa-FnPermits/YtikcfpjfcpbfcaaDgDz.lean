/-
What is proved: DrawGrant: any net, book and permit.
-/
import Derived.Test.YtikcfpjfcpbfcaaBkDz
import Derived.Test.YtikcfpjfcpbfcaaFeDz
import Derived.Test.YtikcfpjfcpbfcaaZcI
import Derived.Deep.DeepCutAuto
import Derived.Deep.RegionHeldLaw
namespace Go.Proofs.Ytikcfpjfcpbfcaa
set_option maxRecDepth 40000
open Go.ChangeShapes Go.WideShapes Go.ChangeAt Go.RowKit
set_option linter.unusedVariables false
set_option linter.unusedSimpArgs false

def DgPost (w : World) (e : Ending) (w' : World) : Prop := ∃ (P : Int) (td : Option Addr) (nd kd : Nat) (ts : Option Addr) (ns ks : Nat) (D : Nat → Int × Int) (S : Nat → Int) (bs : Option Addr) (nb bc : Nat) (X Y : Nat → Int) (K : Nat → Nat) (V : Nat → Nat → Int) (a x : Int) (t : Option Addr) (k kc : Nat) (U : Nat → Int), e = .returned (.tuple #[.agg #[.int .i64 P, .slice td nd kd, .slice ts ns ks], .agg #[.slice bs nb bc], .agg #[.int .i64 a, .int .i64 x, .slice t k kc]]) ∧ nd ≤ 70000 ∧ ns ≤ 10 ∧ nb ≤ 20 ∧ nb ≤ bc ∧ k ≤ 70001 ∧ (∀ i, i < nb → K i ≤ 70000) ∧ RowDuct w' td nd D ∧ RowI w' ts ns S ∧ RowPer w' bs nb X Y K V ∧ RowI w' t k U ∧ Below w.heap.size w w'
theorem Lst.neR {base r : Nat} {T : TypeId} {M : Nat} {W : World} {t : Option Addr} {k kc : Nat} {U : Nat → Int} (h : Lst base T M W (.slice t k kc) k U) (hr : r < base) : ∀ g o, t = some ⟨g, o, none⟩ → g ≠ r := fun g o e => by
  rcases h.2 with ⟨q, z⟩ | ⟨g', cap, cur, e1, q, _⟩
  · cases q
    cases e
  · cases e1
    cases e
    omega
/-- All between is kept but what stands at the reader, and what came later. -/
def KpR (r : Nat) (W W' : World) : Prop := W.heap.size ≤ W'.heap.size ∧ ∀ g, r + 1 ≤ g → g < W.heap.size → W'.heap[g]? = W.heap[g]?
theorem KpR.refl (r : Nat) (W : World) : KpR r W W := ⟨Nat.le_refl _, fun _ _ _ => rfl⟩
theorem KpR.below {r : Nat} {W0 W W' : World} (h : KpR r W0 W) (b : Below W.heap.size W W') : KpR r W0 W' := ⟨Nat.le_trans h.1 b.size, fun g h1 h2 => (b.block g (Nat.lt_of_lt_of_le h2 h.1)).trans (h.2 g h1 h2)⟩
theorem KpR.reader {r : Nat} {W0 W W' : World} (h : KpR r W0 W) (b : Beside r W W') : KpR r W0 W' := ⟨Nat.le_trans h.1 b.2.2.2.1, fun g h1 h2 => (b.2.2.2.2 g (Nat.lt_of_lt_of_le h2 h.1) (by omega)).trans (h.2 g h1 h2)⟩
theorem KpR.later {r g : Nat} {W0 W W' : World} (h : KpR r W0 W) (b : Beside g W W') (hg : W0.heap.size ≤ g) : KpR r W0 W' := ⟨Nat.le_trans h.1 b.2.2.2.1, fun q h1 h2 => (b.2.2.2.2 q (Nat.lt_of_lt_of_le h2 h.1) (by omega)).trans (h.2 q h1 h2)⟩
theorem KpR.lower {r g : Nat} {W0 W W' : World} (h : KpR r W0 W) (b : Beside g W W') (hg : g ≤ r) : KpR r W0 W' := ⟨Nat.le_trans h.1 b.2.2.2.1, fun q h1 h2 => (b.2.2.2.2 q (Nat.lt_of_lt_of_le h2 h.1) (by omega)).trans (h.2 q h1 h2)⟩
theorem KpR.belowB {r B : Nat} {W0 W W' : World} (h : KpR r W0 W) (b : Below B W W') (hB : W0.heap.size ≤ B) : KpR r W0 W' := ⟨Nat.le_trans h.1 b.size, fun g h1 h2 => (b.block g (by omega)).trans (h.2 g h1 h2)⟩
theorem KpR.lst {r : Nat} {T : TypeId} {M : Nat} {W W' : World} {v : Value} {k : Nat} {U : Nat → Int} (q : KpR r W W') (h : Lst (r + 1) T M W v k U) : Lst (r + 1) T M W' v k U := h.same fun g hg => q.2 g (h.lt g hg).1 (h.lt g hg).2
theorem KpR.bkf {r n : Nat} {W W' : World} {v : Value} {X Y : Nat → Int} {K : Nat → Nat} {V : Nat → Nat → Int} (q : KpR r W W') (h : BkF (r + 1) W v n X Y K V) : BkF (r + 1) W' v n X Y K V := h.same q.1 q.2
theorem list_LstD {ops : Array Oper} {rest : List Oper} {o : Oper} {a : Act} {Q : Exit → Act → World → Prop} {W : World} {tt : TypeId} {x y : Int} (B : Nat) (dv : Value) (nd : Nat) (U : Nat → Int) (sa z : Operand) (hgd : o.guard = none)
    (ho : o.op = .call { callee := .builtin .append, args := #[sa, z], argTypes := #[39, 39] }) (hs : a.eval sa = dv) (hx : a.eval z = .slice (some ⟨W.heap.size, 0, none⟩) 1 1) (h : Lst B 106 2 W dv nd U) (hB : B ≤ W.heap.size) (hk : nd ≤ 100000)
    (hK : ∀ g cap w' U', Lst B 106 2 w' (.slice (some ⟨g, 0, none⟩) (nd + 1) cap) (nd + 1) U' → Below B W w' → wpList Try.prog ops Q rest (a.put o.dst (.slice (some ⟨g, 0, none⟩) (nd + 1) cap)) w') :
    wpList Try.prog ops Q (o :: rest) a (W.alloc (.cells #[.int .i64 x, .int .i64 y] tt)) := by
  obtain ⟨i0, hi, hz0, hz1, hz2⟩ := info_parts info_Duct
  have h' := h.below (below0 W (.cells #[.int .i64 x, .int .i64 y] tt))
  have hB' : B ≤ (W.alloc (.cells #[.int .i64 x, .int .i64 y] tt)).heap.size := by simp; omega
  refine wpList_append_lies _ hgd sa z 39 ho B 106 i0 (.agg #[.int .i64 0, .int .i64 0]) 2 16 Try.underlying39 hi hz0 hz1 hz2 rfl (by decide) dv nd _ hs h' ⟨W.heap.size, 0, none⟩ 1 1 [.int .i64 x, .int .i64 y] hx rfl (newsTwo _ _ _ _) ?_ (by decide) (by unfold maxLen; omega) (by omega) hB' _ rfl ?_
  · intro u hu
    simp at hu
    rcases hu with rfl | rfl <;> rfl
  · intro g cap w' q1 q2 _ q3
    exact hK g cap w' _ (h'.on (xs := [x, y]) rfl q1) (((below0 W _).mono hB).trans (grown_below q2 hB' (own_block h')))
theorem blk_row1 {W : World} {b : Nat} {x : Int} (h : Blk W b [.int .i64 x]) : RowI W (some ⟨b, 0, none⟩) 1 (fun _ => x) := fun j hj => by
  obtain rfl : j = 0 := by omega
  exact ⟨b, 0, rfl, h.1, h.2.2 0 _ rfl⟩
structure StopG (p : Prop) : Prop where
  out : p
theorem stopG {p : Prop} (h : StopG p) : p := h.out
set_option maxRecDepth 20000 in
set_option maxHeartbeats 16000000 in
theorem drawGrant_any {s : Option Addr} {n c : Nat} {w : World} (h : Hid (Code8 w s n)) :
    Calls Try.prog 37 #[.slice s n c] w fun e w' => DgPost w e w' := by
  go_enter Try.func37, Try.ntmps37
  go_upto_region 1 with fail
  obtain ⟨wa, hwa⟩ : ∃ z, z = w.alloc (.cells #[.int .i64 0, .slice none 0 0, .slice none 0 0] 41) := ⟨_, rfl⟩
  try rw [← hwa]
  obtain ⟨wb, hwb⟩ : ∃ z, z = wa.alloc (.cells #[.slice none 0 0] 36) := ⟨_, rfl⟩
  try rw [← hwb]
  obtain ⟨wc, hwc⟩ : ∃ z, z = wb.alloc (.cells #[.int .i64 0, .int .i64 0, .slice none 0 0] 44) := ⟨_, rfl⟩
  try rw [← hwc]
  obtain ⟨g2, hg2⟩ : ∃ z, z = w.heap.size := ⟨_, rfl⟩
  obtain ⟨g3, hg3⟩ : ∃ z, z = wa.heap.size := ⟨_, rfl⟩
  obtain ⟨g4, hg4⟩ : ∃ z, z = wb.heap.size := ⟨_, rfl⟩
  have ba : Below w.heap.size w wa := by rw [hwa]; exact below0 _ _
  have bb : Below wa.heap.size wa wb := by rw [hwb]; exact below0 _ _
  have bc_ : Below wb.heap.size wb wc := by rw [hwc]; exact below0 _ _
  have H2a : Hid (Blk wa g2 [.int .i64 0, .slice none 0 0, .slice none 0 0]) := by show Blk _ _ _; rw [hwa, hg2]; exact Blk.new w #[.int .i64 0, .slice none 0 0, .slice none 0 0] _
  have H3b : Hid (Blk wb g3 [.slice none 0 0]) := by show Blk _ _ _; rw [hwb, hg3]; exact Blk.new wa #[.slice none 0 0] _
  have H4 : Hid (Blk wc g4 [.int .i64 0, .int .i64 0, .slice none 0 0]) := by show Blk _ _ _; rw [hwc, hg4]; exact Blk.new wb #[.int .i64 0, .int .i64 0, .slice none 0 0] _
  have H3 : Hid (Blk wc g3 [.slice none 0 0]) := H3b.out.below bc_
  have H2 : Hid (Blk wc g2 [.int .i64 0, .slice none 0 0, .slice none 0 0]) := (H2a.out.below bb).below bc_
  have HS : Hid (Below w.heap.size w wc) := ba.trans ((bb.mono ba.size).trans (bc_.mono (Nat.le_trans ba.size bb.size)))
  have hq1 : w.heap.size + 1 = g3 := by rw [hg3, hwa]; simp
  have hq2 : g3 + 1 = g4 := by rw [hg4, hwb, hg3]; simp
  have z23 : g2 < g3 := by omega
  have z34 : g3 < g4 := by omega
  have zw2 : w.heap.size ≤ g2 := by omega
  have HC : Hid (Code8 wc s n) := ((h.out.below ba).below bb).below bc_
  try rw [hq1]
  try rw [hq2]
  try rw [← hg2]
  clear hwa hwb hwc ba bb bc_ hg2 hg3 hg4 H2a H3b hq1 hq2 h
  go_wp2_with fail
  refine (open_any HC).mono ?_
  rintro e w1 ⟨rfl, R1, b1⟩
  obtain ⟨r, hr⟩ : ∃ z, z = wc.heap.size := ⟨_, rfl⟩
  have HR : Hid (∃ q, Rd w1 r s n c q) := ⟨0, by rw [hr]; exact R1⟩
  have z4r : g4 < r := by have := H4.out.1; omega
  try rw [← hr]
  replace H2 : Hid (Blk w1 g2 [.int .i64 0, .slice none 0 0, .slice none 0 0]) := H2.out.below b1
  replace H3 : Hid (Blk w1 g3 [.slice none 0 0]) := H3.out.below b1
  replace H4 : Hid (Blk w1 g4 [.int .i64 0, .int .i64 0, .slice none 0 0]) := H4.out.below b1
  replace HS : Hid (Below w.heap.size w w1) := HS.out.trans (b1.mono HS.out.size)
  clear R1 b1 hr HC
  obtain ⟨q0, R0⟩ := HR.out
  go_wp2_with fail
  refine (net_any R0).mono ?_
  rintro e w2 ⟨P, td, nd, kd, ts, ns, ks, rfl, p2, R2, b2, hnd, hns, ⟨UD, hU⟩, ⟨US, hV⟩⟩
  have zr1 : r < w1.heap.size := R0.1
  have HD : Hid (Lst (r + 1) 106 2 w2 (.slice td nd kd) nd UD) := hU.lowN (by omega)
  have HL : Hid (Lst (r + 1) 2 1 w2 (.slice ts ns ks) ns US) := hV.lowN (by omega)
  clear R0 zr1 hU hV
  replace H2 : Hid (Blk w2 g2 [.int .i64 0, .slice none 0 0, .slice none 0 0]) := H2.out.beside b2 (by omega)
  replace H3 : Hid (Blk w2 g3 [.slice none 0 0]) := H3.out.beside b2 (by omega)
  replace H4 : Hid (Blk w2 g4 [.int .i64 0, .int .i64 0, .slice none 0 0]) := H4.out.beside b2 (by omega)
  replace HS : Hid (Below w.heap.size w w2) := HS.out.trans (b2.below (by omega) HS.out.size)
  replace HR : Hid (∃ q, Rd w2 r s n c q) := ⟨_, R2⟩
  clear R2 b2
  go_upto_region 3 with fail
  obtain ⟨w3, hx_⟩ : ∃ z, z = w2.alloc (.cells #[.int .i64 P, .slice td nd kd, .slice ts ns ks] 41) := ⟨_, rfl⟩
  try rw [← hx_]
  obtain ⟨gn, hg_⟩ : ∃ z, z = w2.heap.size := ⟨_, rfl⟩
  have zrn : r < gn := by obtain ⟨q_, R_⟩ := HR.out; have := R_.1; omega
  have b_ : Below w2.heap.size w2 w3 := by rw [hx_]; exact below0 _ _
  have HN : Hid (Blk w3 gn [.int .i64 P, .slice td nd kd, .slice ts ns ks]) := by show Blk _ _ _; rw [hx_, hg_]; exact Blk.new w2 #[.int .i64 P, .slice td nd kd, .slice ts ns ks] _
  replace H2 : Hid (Blk w3 g2 [.int .i64 0, .slice none 0 0, .slice none 0 0]) := H2.out.below b_
  replace H3 : Hid (Blk w3 g3 [.slice none 0 0]) := H3.out.below b_
  replace H4 : Hid (Blk w3 g4 [.int .i64 0, .int .i64 0, .slice none 0 0]) := H4.out.below b_
  replace HD : Hid (Lst (r + 1) 106 2 w3 (.slice td nd kd) nd UD) := HD.out.below b_
  replace HL : Hid (Lst (r + 1) 2 1 w3 (.slice ts ns ks) ns US) := HL.out.below b_
  replace HR : Hid (∃ q, Rd w3 r s n c q) := by obtain ⟨q_, R_⟩ := HR.out; exact ⟨q_, R_.below b_⟩
  replace HS : Hid (Below w.heap.size w w3) := HS.out.trans (b_.mono HS.out.size)
  try rw [← hg_]
  clear hx_ hg_ b_
  have c0 := HN.out.2.2 0 _ rfl
  have c1 := HN.out.2.2 1 _ rfl
  have c2 := HN.out.2.2 2 _ rfl
  have cz := HN.out.1
  obtain ⟨q0, R0⟩ := HR.out
  have HDx : Hid (RowDuct w3 td nd (fun i => (UD (i * 2), UD (i * 2 + 1)))) := HD.out.duct
  have HLx : Hid (RowI w3 ts ns US) := HL.out.src
  have HTD : Hid (∀ g o, td = some ⟨g, o, none⟩ → g ≠ r) := HD.out.neR (Nat.lt_succ_self r)
  have HTS : Hid (∀ g o, ts = some ⟨g, o, none⟩ → g ≠ r) := HL.out.neR (Nat.lt_succ_self r)
  go_wp2_with fail
  refine (book_any hnd hns HDx HLx HTD HTS R0).mono ?_
  rintro e w4 hB
  unfold BkPost at hB
  obtain ⟨bs, nb, bc, X, Y, K, V, p4, rfl, nb6, hKb, hF, R4, b4⟩ := hB
  have zr3 : r < w3.heap.size := R0.1
  have HF : Hid (BkF (r + 1) w4 (.slice bs nb bc) nb X Y K V) := hF.low (by omega)
  have HKb : Hid (∀ i, i < nb → K i ≤ 70000) := hKb
  clear hF hKb R0 zr3 HDx HLx
  clear c0 c1 c2 cz
  replace H2 : Hid (Blk w4 g2 [.int .i64 0, .slice none 0 0, .slice none 0 0]) := H2.out.beside b4 (by omega)
  replace H3 : Hid (Blk w4 g3 [.slice none 0 0]) := H3.out.beside b4 (by omega)
  replace H4 : Hid (Blk w4 g4 [.int .i64 0, .int .i64 0, .slice none 0 0]) := H4.out.beside b4 (by omega)
  replace HN : Hid (Blk w4 gn [.int .i64 P, .slice td nd kd, .slice ts ns ks]) := HN.out.beside b4 (by omega)
  replace HD : Hid (Lst (r + 1) 106 2 w4 (.slice td nd kd) nd UD) := HD.out.beside b4 (by omega)
  replace HL : Hid (Lst (r + 1) 2 1 w4 (.slice ts ns ks) ns US) := HL.out.beside b4 (by omega)
  replace HS : Hid (Below w.heap.size w w4) := HS.out.trans (b4.below (by omega) HS.out.size)
  replace HR : Hid (∃ q, Rd w4 r s n c q) := ⟨_, R4⟩
  clear R4 b4
  go_upto_region 4 with fail
  obtain ⟨w5, hx_⟩ : ∃ z, z = w4.alloc (.cells #[.slice bs nb bc] 36) := ⟨_, rfl⟩
  try rw [← hx_]
  obtain ⟨gk, hg_⟩ : ∃ z, z = w4.heap.size := ⟨_, rfl⟩
  have znk : gn < gk := by have := HN.out.1; omega
  have b_ : Below w4.heap.size w4 w5 := by rw [hx_]; exact below0 _ _
  have HB : Hid (Blk w5 gk [.slice bs nb bc]) := by show Blk _ _ _; rw [hx_, hg_]; exact Blk.new w4 #[.slice bs nb bc] _
  replace H2 : Hid (Blk w5 g2 [.int .i64 0, .slice none 0 0, .slice none 0 0]) := H2.out.below b_
  replace H3 : Hid (Blk w5 g3 [.slice none 0 0]) := H3.out.below b_
  replace H4 : Hid (Blk w5 g4 [.int .i64 0, .int .i64 0, .slice none 0 0]) := H4.out.below b_
  replace HN : Hid (Blk w5 gn [.int .i64 P, .slice td nd kd, .slice ts ns ks]) := HN.out.below b_
  replace HD : Hid (Lst (r + 1) 106 2 w5 (.slice td nd kd) nd UD) := HD.out.below b_
  replace HL : Hid (Lst (r + 1) 2 1 w5 (.slice ts ns ks) ns US) := HL.out.below b_
  replace HF : Hid (BkF (r + 1) w5 (.slice bs nb bc) nb X Y K V) := HF.out.below b_
  replace HR : Hid (∃ q, Rd w5 r s n c q) := by obtain ⟨q_, R_⟩ := HR.out; exact ⟨q_, R_.below b_⟩
  replace HS : Hid (Below w.heap.size w w5) := HS.out.trans (b_.mono HS.out.size)
  try rw [← hg_]
  clear hx_ hg_ b_
  obtain ⟨q0, R0⟩ := HR.out
  go_wp2_with fail
  refine (once_any 40 (by omega) (by omega) R0).mono ?_
  rintro e w6 ⟨bo, p6, rfl, R6, b6⟩
  replace H2 : Hid (Blk w6 g2 [.int .i64 0, .slice none 0 0, .slice none 0 0]) := H2.out.beside b6 (by omega)
  replace H3 : Hid (Blk w6 g3 [.slice none 0 0]) := H3.out.beside b6 (by omega)
  replace H4 : Hid (Blk w6 g4 [.int .i64 0, .int .i64 0, .slice none 0 0]) := H4.out.beside b6 (by omega)
  replace HN : Hid (Blk w6 gn [.int .i64 P, .slice td nd kd, .slice ts ns ks]) := HN.out.beside b6 (by omega)
  replace HB : Hid (Blk w6 gk [.slice bs nb bc]) := HB.out.beside b6 (by omega)
  replace HD : Hid (Lst (r + 1) 106 2 w6 (.slice td nd kd) nd UD) := HD.out.beside b6 (by omega)
  replace HL : Hid (Lst (r + 1) 2 1 w6 (.slice ts ns ks) ns US) := HL.out.beside b6 (by omega)
  replace HF : Hid (BkF (r + 1) w6 (.slice bs nb bc) nb X Y K V) := HF.out.beside b6 (by omega)
  replace HS : Hid (Below w.heap.size w w6) := HS.out.trans (b6.below (by omega) HS.out.size)
  replace HR : Hid (∃ q, Rd w6 r s n c q) := ⟨_, R6⟩
  clear R0 R6 b6
  cases bo
  case true =>
    clear HD HL HF HKb HTD HTS hnd hns nb6
    have c0 := HN.out.2.2 0 _ rfl
    have c1 := HN.out.2.2 1 _ rfl
    have c2 := HN.out.2.2 2 _ rfl
    have cz := HN.out.1
    have d0 := HB.out.2.2 0 _ rfl
    have dz := HB.out.1
    have hst := store_slT
    have fn0 := HN.out.2.1 0
    have fn1 := HN.out.2.1 1
    have fn2 := HN.out.2.1 2
    have fb0 := HB.out.2.1 0
    go_upto_region 8 with fail
    clear c0 c1 c2 cz d0 dz fn0 fn1 fn2 fb0 hst
    obtain ⟨x1, hx1⟩ : ∃ z, z = ((w6.setCell ⟨gn, 0, none⟩ (.int .i64 30)).setCell ⟨gn, 1, none⟩ (.slice none 0 0)).setCell ⟨gn, 2, none⟩ (.slice (some ⟨w6.heap.size, 0, none⟩) 1 1) := ⟨_, rfl⟩
    rw [← hx1]
    obtain ⟨x2, hx2⟩ : ∃ z, z = x1.setCell ⟨gk, 0, none⟩ (.slice none 0 0) := ⟨_, rfl⟩
    rw [← hx2]
    obtain ⟨x3, hx3⟩ : ∃ z, z = x2.alloc (.cells #[.int .i64 0] 2) := ⟨_, rfl⟩
    rw [← hx3]
    obtain ⟨gs, hgs⟩ : ∃ z, z = w6.heap.size := ⟨_, rfl⟩
    have hs1 : x1.heap.size = gs := by rw [hx1, hgs]; simp
    have hs2 : x2.heap.size = gs := by rw [hx2, ← hs1]; simp
    have b1 : Beside gn w6 x1 := by rw [hx1]; exact ((Beside.setCell gn _ 0 _).trans (Beside.setCell gn _ 1 _)).trans (Beside.setCell gn _ 2 _)
    have b2 : Beside gk x1 x2 := by rw [hx2]; exact Beside.setCell gk _ 0 _
    have b3 : Below x2.heap.size x2 x3 := by rw [hx3]; exact below0 _ _
    have zks : gk < gs := by have := HB.out.1; omega
    replace HN : Hid (Blk x1 gn [.int .i64 30, .slice none 0 0, .slice (some ⟨gs, 0, none⟩) 1 1]) := by show Blk _ _ _; rw [hx1, hgs]; exact ((HN.out.set 0 _).set 1 _).set 2 _
    replace H2 : Hid (Blk x1 g2 [.int .i64 0, .slice none 0 0, .slice none 0 0]) := H2.out.beside b1 (by omega)
    replace H3 : Hid (Blk x1 g3 [.slice none 0 0]) := H3.out.beside b1 (by omega)
    replace H4 : Hid (Blk x1 g4 [.int .i64 0, .int .i64 0, .slice none 0 0]) := H4.out.beside b1 (by omega)
    replace HB : Hid (Blk x1 gk [.slice bs nb bc]) := HB.out.beside b1 (by omega)
    replace HR : Hid (∃ q, Rd x1 r s n c q) := by obtain ⟨q_, R_⟩ := HR.out; have zr_ := R_.1; exact ⟨q_, Rd.below' R_ (b1.below (by omega) (by omega))⟩
    replace HS : Hid (Below w.heap.size w x1) := HS.out.trans (b1.below (by omega) HS.out.size)
    replace HB : Hid (Blk x2 gk [.slice none 0 0]) := by show Blk _ _ _; rw [hx2]; exact HB.out.set 0 _
    replace H2 : Hid (Blk x2 g2 [.int .i64 0, .slice none 0 0, .slice none 0 0]) := H2.out.beside b2 (by omega)
    replace H3 : Hid (Blk x2 g3 [.slice none 0 0]) := H3.out.beside b2 (by omega)
    replace H4 : Hid (Blk x2 g4 [.int .i64 0, .int .i64 0, .slice none 0 0]) := H4.out.beside b2 (by omega)
    replace HN : Hid (Blk x2 gn [.int .i64 30, .slice none 0 0, .slice (some ⟨gs, 0, none⟩) 1 1]) := HN.out.beside b2 (by omega)
    replace HR : Hid (∃ q, Rd x2 r s n c q) := by obtain ⟨q_, R_⟩ := HR.out; have zr_ := R_.1; exact ⟨q_, Rd.below' R_ (b2.below (by omega) (by omega))⟩
    replace HS : Hid (Below w.heap.size w x2) := HS.out.trans (b2.below (by omega) HS.out.size)
    have HG : Hid (Blk x3 gs [.int .i64 0]) := by show Blk _ _ _; rw [hx3, ← hs2]; exact Blk.new x2 #[.int .i64 0] _
    have zs3 : gs + 1 ≤ x3.heap.size := by have := HG.out.1; omega
    replace H2 : Hid (Blk x3 g2 [.int .i64 0, .slice none 0 0, .slice none 0 0]) := H2.out.below b3
    replace H3 : Hid (Blk x3 g3 [.slice none 0 0]) := H3.out.below b3
    replace H4 : Hid (Blk x3 g4 [.int .i64 0, .int .i64 0, .slice none 0 0]) := H4.out.below b3
    replace HN : Hid (Blk x3 gn [.int .i64 30, .slice none 0 0, .slice (some ⟨gs, 0, none⟩) 1 1]) := HN.out.below b3
    replace HB : Hid (Blk x3 gk [.slice none 0 0]) := HB.out.below b3
    replace HR : Hid (∃ q, Rd x3 r s n c q) := by obtain ⟨q_, R_⟩ := HR.out; exact ⟨q_, R_.below b3⟩
    replace HS : Hid (Below w.heap.size w x3) := HS.out.trans (b3.mono HS.out.size)
    try rw [← hgs]
    clear hx1 hx2 hx3 hs1 hs2 b1 b2 b3 hgs
    have HD : Hid (Lst (gs + 1) 106 2 x3 (.slice none 0 0) 0 (fun _ => 0)) := Lst.nilN _ _ _ _ _
    go_wp2_with fail
    go_loopw [8] (fun i wx => ∃ (nd kd : Nat) (td : Option Addr) (U : Nat → Int), i = .int .i64 ((nd : Int) + 1) ∧ nd ≤ 29 ∧ gs + 1 ≤ wx.heap.size ∧ Hid (Blk wx gn [.int .i64 30, .slice td nd kd, .slice (some ⟨gs, 0, none⟩) 1 1]) ∧ Hid (Blk wx gk [.slice none 0 0]) ∧ Hid (Lst (gs + 1) 106 2 wx (.slice td nd kd) nd U) ∧ Hid (∃ q, Rd wx r s n c q) ∧ Hid (Below w.heap.size w wx) ∧ Hid (Blk wx g2 [.int .i64 0, .slice none 0 0, .slice none 0 0]) ∧ Hid (Blk wx g3 [.slice none 0 0]) ∧ Hid (Blk wx g4 [.int .i64 0, .int .i64 0, .slice none 0 0]) ∧ Hid (Blk wx gs [.int .i64 0])) (fun i _ => (30 - intOf i).toNat)
    case atStart => exact ⟨0, 0, none, _, rfl, by omega, zs3, HN, HB, HD, HR, HS, H2, H3, H4, HG⟩
    case round =>
      clear HN HB HD HR HS H2 H3 H4 HG zs3
      obtain ⟨nd, kd, td, U, rfl, hnd, zs3, HN, HB, HD, HR, HS, H2, H3, H4, HG⟩ := hrel
      rename World => wr
      by_cases hk : nd < 29
      case pos =>
        have hki : (nd : Int) + 1 < 30 := by omega
        have hst := store_slT
        have wk : IntKind.i64.wrap ((nd : Int) + 1) = (nd : Int) + 1 := by rw [IntKind.wrap_i64]; omega
        have c0 := HN.out.2.2 0 _ rfl
        have c1 := HN.out.2.2 1 _ rfl
        have c2 := HN.out.2.2 2 _ rfl
        have cz := HN.out.1
        go_wp2_with (at_builtin; refine list_LstD (gs + 1) (.slice td nd kd) nd U (.tmp 28) (.tmp 31) (by rfl) (by rfl) (by rfl) (by rfl) HD.out zs3 (by omega) ?_; intro g9 cap9 w9 U9 l9 b9; have Hl9 : Hid (Lst (gs + 1) 106 2 w9 (.slice (some ⟨g9, 0, none⟩) (nd + 1) cap9) (nd + 1) U9) := l9; have Hb9 : Hid (Below (gs + 1) wr w9) := b9; clear l9 b9; have e9 := (Hb9.out.cell (p := ⟨gn, 1, none⟩) (by simp only; omega)).trans c1; have f9 := (Hb9.out.frozen (p := ⟨gn, 1, none⟩) (by simp only; omega)).trans (HN.out.2.1 1); have z9 := Nat.lt_of_lt_of_le cz Hb9.out.size)
        go_roundw
        case rel =>
          obtain ⟨y1, hy1⟩ : ∃ z, z = w9.setCell ⟨gn, 1, none⟩ (.slice (some ⟨g9, 0, none⟩) (nd + 1) cap9) := ⟨_, rfl⟩
          rw [← hy1]
          have bg : Beside gn w9 y1 := by rw [hy1]; exact Beside.setCell gn _ 1 _
          have b9 := Hb9.out
          have zs9 := b9.size
          replace H2 : Hid (Blk w9 g2 [.int .i64 0, .slice none 0 0, .slice none 0 0]) := H2.out.belowB b9 (by omega)
          replace H3 : Hid (Blk w9 g3 [.slice none 0 0]) := H3.out.belowB b9 (by omega)
          replace H4 : Hid (Blk w9 g4 [.int .i64 0, .int .i64 0, .slice none 0 0]) := H4.out.belowB b9 (by omega)
          replace HN : Hid (Blk w9 gn [.int .i64 30, .slice td nd kd, .slice (some ⟨gs, 0, none⟩) 1 1]) := HN.out.belowB b9 (by omega)
          replace HB : Hid (Blk w9 gk [.slice none 0 0]) := HB.out.belowB b9 (by omega)
          replace HG : Hid (Blk w9 gs [.int .i64 0]) := HG.out.belowB b9 (by omega)
          replace HR : Hid (∃ q, Rd w9 r s n c q) := by obtain ⟨q_, R_⟩ := HR.out; exact ⟨q_, Rd.below' R_ (b9.mono (by omega))⟩
          replace HS : Hid (Below w.heap.size w w9) := HS.out.trans (b9.mono (by omega))
          have HN2 : Hid (Blk y1 gn [.int .i64 30, .slice (some ⟨g9, 0, none⟩) (nd + 1) cap9, .slice (some ⟨gs, 0, none⟩) 1 1]) := by show Blk _ _ _; rw [hy1]; exact HN.out.set 1 _
          replace H2 : Hid (Blk y1 g2 [.int .i64 0, .slice none 0 0, .slice none 0 0]) := H2.out.beside bg (by omega)
          replace H3 : Hid (Blk y1 g3 [.slice none 0 0]) := H3.out.beside bg (by omega)
          replace H4 : Hid (Blk y1 g4 [.int .i64 0, .int .i64 0, .slice none 0 0]) := H4.out.beside bg (by omega)
          replace HB : Hid (Blk y1 gk [.slice none 0 0]) := HB.out.beside bg (by omega)
          replace HG : Hid (Blk y1 gs [.int .i64 0]) := HG.out.beside bg (by omega)
          replace HR : Hid (∃ q, Rd y1 r s n c q) := by obtain ⟨q_, R_⟩ := HR.out; have zr_ := R_.1; exact ⟨q_, Rd.below' R_ (bg.below (by omega) (by omega))⟩
          replace HS : Hid (Below w.heap.size w y1) := HS.out.trans (bg.below (by omega) HS.out.size)
          exact ⟨nd + 1, cap9, some ⟨g9, 0, none⟩, U9, by go_num, by omega, Nat.le_trans zs3 (Nat.le_trans zs9 bg.2.2.2.1), HN2, HB, Hl9.out.beside bg (by omega), HR, HS, H2, H3, H4, HG⟩
        case measure => first | (simp [intOf]; done) | (simp [intOf]; omega)
      case neg =>
        have hn29 : Hid (nd = 29) := by show nd = 29; omega
        have hki : ¬ (nd : Int) + 1 < 30 := by omega
        clear hk hnd
        obtain ⟨B2, hB2⟩ : ∃ B, B = wr.heap.size := ⟨_, rfl⟩
        have HDL : Hid (∀ g, Value.ownBlock (.slice td nd kd) = some g → g < B2) := fun g hg => by rw [hB2]; exact (HD.out.lt g hg).2
        have zB2 : gs + 1 ≤ B2 := by omega
        replace zs3 : B2 ≤ wr.heap.size := by omega
        clear hB2
        go_wp2_with fail
        go_loopw [9] (fun i wx => ∃ (nb bc : Nat) (bs : Option Addr), i = .int .i64 ((nb : Int) + 1) ∧ nb ≤ 20 ∧ B2 ≤ wx.heap.size ∧ Hid (Blk wx gn [.int .i64 30, .slice td nd kd, .slice (some ⟨gs, 0, none⟩) 1 1]) ∧ Hid (Blk wx gk [.slice bs nb bc]) ∧ Hid (Lst (gs + 1) 106 2 wx (.slice td nd kd) nd U) ∧ Hid (PtKc B2 wx (.slice bs nb bc) nb (fun j => 2 * ((j : Int) + 1)) (fun j => (j : Int) + 1) (fun _ => 1) (fun j _ => (j : Int))) ∧ Hid (∃ q, Rd wx r s n c q) ∧ Hid (Below w.heap.size w wx) ∧ Hid (Blk wx g2 [.int .i64 0, .slice none 0 0, .slice none 0 0]) ∧ Hid (Blk wx g3 [.slice none 0 0]) ∧ Hid (Blk wx g4 [.int .i64 0, .int .i64 0, .slice none 0 0]) ∧ Hid (Blk wx gs [.int .i64 0])) (fun i _ => (21 - intOf i).toNat)
        case atStart => exact ⟨0, 0, none, rfl, by omega, zs3, HN, HB, HD, PtKc.nil _ _ _ _ _ _, HR, HS, H2, H3, H4, HG⟩
        case round =>
          clear HN HB HD HR HS H2 H3 H4 HG zs3
          obtain ⟨nb, bc, bs, rfl, hnb, zs3, HN, HB, HD, HPK, HR, HS, H2, H3, H4, HG⟩ := hrel
          rename World => wr
          obtain ⟨q0, R0⟩ := HR.out
          go_wp2_with fail
          refine (below_any 2 R0).mono ?_
          rintro e w1 ⟨kk, p1, rfl, k0, -, k1, R1, b1⟩
          have zr1 : r < wr.heap.size := R0.1
          have HPB : Hid (PtKc B2 w1 (.slice bs nb bc) nb (fun j => 2 * ((j : Int) + 1)) (fun j => (j : Int) + 1) (fun _ => 1) (fun j _ => (j : Int))) := HPK.out.beside b1 (by omega)
          clear HPK
          replace H2 : Hid (Blk w1 g2 [.int .i64 0, .slice none 0 0, .slice none 0 0]) := H2.out.beside b1 (by omega)
          replace H3 : Hid (Blk w1 g3 [.slice none 0 0]) := H3.out.beside b1 (by omega)
          replace H4 : Hid (Blk w1 g4 [.int .i64 0, .int .i64 0, .slice none 0 0]) := H4.out.beside b1 (by omega)
          replace HN : Hid (Blk w1 gn [.int .i64 30, .slice td nd kd, .slice (some ⟨gs, 0, none⟩) 1 1]) := HN.out.beside b1 (by omega)
          replace HB : Hid (Blk w1 gk [.slice bs nb bc]) := HB.out.beside b1 (by omega)
          replace HG : Hid (Blk w1 gs [.int .i64 0]) := HG.out.beside b1 (by omega)
          replace HD : Hid (Lst (gs + 1) 106 2 w1 (.slice td nd kd) nd U) := HD.out.beside b1 (by omega)
          replace HS : Hid (Below w.heap.size w w1) := HS.out.trans (b1.below (by omega) HS.out.size)
          replace HR : Hid (∃ q, Rd w1 r s n c q) := ⟨_, R1⟩
          replace zs3 : B2 ≤ w1.heap.size := Nat.le_trans zs3 b1.2.2.2.1
          clear R0 R1 b1 zr1
          have wq : IntKind.i64.wrap (20 - kk) = 20 - kk := by rw [IntKind.wrap_i64]; omega
          by_cases hc : (nb : Int) + 1 ≤ 20 - kk
          case pos =>
            have hst := store_slT
            have w2_ : IntKind.i64.wrap (2 * ((nb : Int) + 1)) = 2 * ((nb : Int) + 1) := by rw [IntKind.wrap_i64]; omega
            have w3_ : IntKind.i64.wrap ((nb : Int) + 1 - 1) = (nb : Int) := by rw [IntKind.wrap_i64]; omega
            have d0 := HB.out.2.2 0 _ rfl
            have dz := HB.out.1
            have fd := HB.out.2.1 0
            obtain ⟨v1, hv1⟩ : ∃ z, z = w1.alloc (.cells #[.int .i64 (nb : Int)] 2) := ⟨_, rfl⟩
            obtain ⟨g1, hg1⟩ : ∃ z, z = w1.heap.size := ⟨_, rfl⟩
            have bv1 : Below w1.heap.size w1 v1 := by rw [hv1]; exact below0 _ _
            have HG1 : Hid (Blk v1 g1 [.int .i64 (nb : Int)]) := by show Blk _ _ _; rw [hv1, hg1]; exact Blk.new w1 #[.int .i64 (nb : Int)] _
            have HTY : Hid (TyJ v1 g1) := by show TyJ _ _; unfold TyJ; rw [hv1, hg1]; exact ⟨_, heap_alloc_new _ _⟩
            have hv1s : v1.heap.size = g1 + 1 := by rw [hv1, hg1]; simp
            have HVS : Hid (v1.heap.size = g1 + 1) := hv1s
            have HPC : Hid (PtBc B2 g1 v1 (.slice bs nb bc) nb (fun j => 2 * ((j : Int) + 1)) (fun j => (j : Int) + 1) (fun _ => 1) (fun j _ => (j : Int))) := by show PtBc _ _ _ _ _ _ _ _ _; rw [hg1]; exact HPB.out.bound.below bv1
            have HLL : Hid (B2 ≤ g1 ∧ g1 < v1.heap.size ∧ TyJ v1 g1 ∧ ∀ j, j < 1 → v1.cell? ⟨g1, j, none⟩ = some (.int .i64 (nb : Int)) ∧ v1.frozen? ⟨g1, j, none⟩ = false) := ⟨by omega, by omega, HTY.out, fun j hj => by
              obtain rfl : j = 0 := by omega
              exact ⟨HG1.out.2.2 0 _ rfl, HG1.out.2.1 0⟩⟩
            have bg1 : Below g1 w1 v1 := by rw [hg1]; exact bv1
            have HC1 : Hid ((1 : Nat) ≤ 1 ∧ ((some ⟨g1, 0, none⟩ : Option Addr) = none → (1 : Nat) = 0)) := ⟨Nat.le_refl _, fun z => by cases z⟩
            go_wp2_with (at_builtin; refine stopG ?_)
            refine ⟨?_⟩
            try rw [← hg1]
            try rw [← hv1]
            refine list_PermitC B2 g1 (.slice bs nb bc) nb (fun j => 2 * ((j : Int) + 1)) (fun j => (j : Int) + 1) (fun _ => 1) (fun j _ => (j : Int)) g1 HC1.out (.tmp 42) (.tmp 50) (by rfl) (by rfl) (by rfl) (by show Value.slice (some ⟨g1 + 1, 0, none⟩) 1 1 = _; rw [HVS.out]) HPC.out (fun _ => ⟨rfl, HLL.out.1, Nat.le_refl _, HLL.out.2⟩) (by omega) (by omega) ?_
            intro g9 cap9 w9 l9 b9
            have Hl9 : Hid (PtKc B2 w9 (.slice (some ⟨g9, 0, none⟩) (nb + 1) cap9) (nb + 1) (fun j => 2 * ((j : Int) + 1)) (fun j => (j : Int) + 1) (fun _ => 1) (fun j _ => (j : Int))) := l9
            have Hb9 : Hid (Below B2 w1 w9) := (bg1.mono (by omega)).trans b9
            clear l9 b9
            have e9 := (Hb9.out.cell (p := ⟨gk, 0, none⟩) (by simp only; omega)).trans d0
            have f9 := (Hb9.out.frozen (p := ⟨gk, 0, none⟩) (by simp only; omega)).trans fd
            have z9 := Nat.lt_of_lt_of_le dz Hb9.out.size
            go_wp2_with fail
            go_roundw
            case rel =>
              obtain ⟨y1, hy1⟩ : ∃ z, z = w9.setCell ⟨gk, 0, none⟩ (.slice (some ⟨g9, 0, none⟩) (nb + 1) cap9) := ⟨_, rfl⟩
              rw [← hy1]
              have bg : Beside gk w9 y1 := by rw [hy1]; exact Beside.setCell gk _ 0 _
              have b9 := Hb9.out
              have zs9 := b9.size
              have HD9 : Hid (Lst (gs + 1) 106 2 w9 (.slice td nd kd) nd U) := HD.out.grownL b9 HDL.out
              replace H2 : Hid (Blk w9 g2 [.int .i64 0, .slice none 0 0, .slice none 0 0]) := H2.out.belowB b9 (by omega)
              replace H3 : Hid (Blk w9 g3 [.slice none 0 0]) := H3.out.belowB b9 (by omega)
              replace H4 : Hid (Blk w9 g4 [.int .i64 0, .int .i64 0, .slice none 0 0]) := H4.out.belowB b9 (by omega)
              replace HN : Hid (Blk w9 gn [.int .i64 30, .slice td nd kd, .slice (some ⟨gs, 0, none⟩) 1 1]) := HN.out.belowB b9 (by omega)
              replace HB : Hid (Blk w9 gk [.slice bs nb bc]) := HB.out.belowB b9 (by omega)
              replace HG : Hid (Blk w9 gs [.int .i64 0]) := HG.out.belowB b9 (by omega)
              replace HR : Hid (∃ q, Rd w9 r s n c q) := by obtain ⟨q_, R_⟩ := HR.out; exact ⟨q_, Rd.below' R_ (b9.mono (by omega))⟩
              replace HS : Hid (Below w.heap.size w w9) := HS.out.trans (b9.mono (by omega))
              have HB2 : Hid (Blk y1 gk [.slice (some ⟨g9, 0, none⟩) (nb + 1) cap9]) := by show Blk _ _ _; rw [hy1]; exact HB.out.set 0 _
              replace H2 : Hid (Blk y1 g2 [.int .i64 0, .slice none 0 0, .slice none 0 0]) := H2.out.beside bg (by omega)
              replace H3 : Hid (Blk y1 g3 [.slice none 0 0]) := H3.out.beside bg (by omega)
              replace H4 : Hid (Blk y1 g4 [.int .i64 0, .int .i64 0, .slice none 0 0]) := H4.out.beside bg (by omega)
              replace HN : Hid (Blk y1 gn [.int .i64 30, .slice td nd kd, .slice (some ⟨gs, 0, none⟩) 1 1]) := HN.out.beside bg (by omega)
              replace HG : Hid (Blk y1 gs [.int .i64 0]) := HG.out.beside bg (by omega)
              replace HR : Hid (∃ q, Rd y1 r s n c q) := by obtain ⟨q_, R_⟩ := HR.out; have zr_ := R_.1; exact ⟨q_, Rd.below' R_ (bg.below (by omega) (by omega))⟩
              replace HS : Hid (Below w.heap.size w y1) := HS.out.trans (bg.below (by omega) HS.out.size)
              exact ⟨nb + 1, cap9, some ⟨g9, 0, none⟩, by go_num, by omega, Nat.le_trans zs3 (Nat.le_trans zs9 bg.2.2.2.1), HN, HB2, HD9.out.beside bg (by omega), Hl9.out.beside bg (by omega), HR, HS, H2, H3, H4, HG⟩
            case measure => first | (simp [intOf]; done) | (simp [intOf]; omega)
          case neg =>
            clear HR
            go_upto_region 15 with fail
            refine wp_region_held_drew (S := fun w' => w'.cell? ⟨gn, 0, none⟩ = some (.int .i64 30) ∧ w'.cell? ⟨gn, 1, none⟩ = some (.slice td nd kd) ∧ w'.cell? ⟨gn, 2, none⟩ = some (.slice (some ⟨gs, 0, none⟩) 1 1) ∧ w'.cell? ⟨gk, 0, none⟩ = some (.slice bs nb bc) ∧ gn < w'.heap.size ∧ gk < w'.heap.size) (by kernel_rfl) ?_ (fun hHeld => ?_)
            · exact ⟨HN.out.2.2 0 _ rfl, HN.out.2.2 1 _ rfl, HN.out.2.2 2 _ rfl, HB.out.2.2 0 _ rfl, HN.out.1, HB.out.1⟩
            obtain ⟨v0, hv0⟩ : ∃ z, z = w1.drew := ⟨_, rfl⟩
            try rw [← hv0] at hHeld
            rw [← hv0]
            have bv0 : Below w1.heap.size w1 v0 := by rw [hv0]; exact Below.drew (Below.refl _ _)
            clear hv0
            replace H2 : Hid (Blk v0 g2 [.int .i64 0, .slice none 0 0, .slice none 0 0]) := H2.out.below bv0
            replace H3 : Hid (Blk v0 g3 [.slice none 0 0]) := H3.out.below bv0
            replace H4 : Hid (Blk v0 g4 [.int .i64 0, .int .i64 0, .slice none 0 0]) := H4.out.below bv0
            replace HN : Hid (Blk v0 gn [.int .i64 30, .slice td nd kd, .slice (some ⟨gs, 0, none⟩) 1 1]) := HN.out.below bv0
            replace HB : Hid (Blk v0 gk [.slice bs nb bc]) := HB.out.below bv0
            replace HG : Hid (Blk v0 gs [.int .i64 0]) := HG.out.below bv0
            replace HD : Hid (Lst (gs + 1) 106 2 v0 (.slice td nd kd) nd U) := HD.out.below bv0
            replace HPB : Hid (PtKc B2 v0 (.slice bs nb bc) nb (fun j => 2 * ((j : Int) + 1)) (fun j => (j : Int) + 1) (fun _ => 1) (fun j _ => (j : Int))) := HPB.out.below bv0
            replace HS : Hid (Below w.heap.size w v0) := HS.out.trans (bv0.mono HS.out.size)
            clear bv0
            refine wpAnyH_take (i := 0) (v := .agg #[.int .i64 30, .slice td nd kd, .slice (some ⟨gs, 0, none⟩) 1 1]) rfl (by kernel_rfl) (by kernel_rfl) (by kernel_rfl) (fun _ _ _ h => h) (Or.inl ⟨by kernel_rfl, ?_⟩) hHeld ?_
            · intro w' hSw
              obtain ⟨hc0, hc1, hc2, hc3, hz0, hz1⟩ := hSw
              first | (go_simp; done) | (go_simp; with_reducible rfl) | (go_simp; rw [IntKind.wrap_i64]; omega) | (go_simp; omega)
            simp only [Act.put, List.setIfInBounds_toArray, List.set_cons_zero, List.set_cons_succ]
            refine wpAnyH_take (i := 1) (v := .agg #[.slice bs nb bc]) rfl (by kernel_rfl) (by kernel_rfl) (by kernel_rfl) (fun _ _ _ h => h) (Or.inl ⟨by kernel_rfl, ?_⟩) hHeld ?_
            · intro w' hSw
              obtain ⟨hc0, hc1, hc2, hc3, hz0, hz1⟩ := hSw
              first | (go_simp; done) | (go_simp; with_reducible rfl) | (go_simp; rw [IntKind.wrap_i64]; omega) | (go_simp; omega)
            simp only [Act.put, List.setIfInBounds_toArray, List.set_cons_zero, List.set_cons_succ]
            refine wpAnyH_ready (rs := [2, 4]) (by kernel_rfl) (by simp) ?_
            refine (AllReadyH.cons rfl (fun KK hK => ?_) (AllReadyH.cons rfl (fun KK hK => ?_) AllReadyH.nil))
            · go_simp
              obtain ⟨v0_1, hv_⟩ : ∃ z, z = v0.alloc (.cells #[.int .i64 28] 2) := ⟨_, rfl⟩
              rw [← hv_]
              obtain ⟨lb, hlb⟩ : ∃ z, z = v0.heap.size := ⟨_, rfl⟩
              have b_ : Below v0.heap.size v0 v0_1 := by rw [hv_]; exact below0 _ _
              have HP : Hid (Blk v0_1 lb [.int .i64 28]) := by show Blk _ _ _; rw [hv_, hlb]; exact Blk.new v0 #[.int .i64 28] _
              have zlb : gk < lb := by have := HB.out.1; omega
              replace H2 : Hid (Blk v0_1 g2 [.int .i64 0, .slice none 0 0, .slice none 0 0]) := H2.out.below b_
              replace H3 : Hid (Blk v0_1 g3 [.slice none 0 0]) := H3.out.below b_
              replace H4 : Hid (Blk v0_1 g4 [.int .i64 0, .int .i64 0, .slice none 0 0]) := H4.out.below b_
              replace HN : Hid (Blk v0_1 gn [.int .i64 30, .slice td nd kd, .slice (some ⟨gs, 0, none⟩) 1 1]) := HN.out.below b_
              replace HB : Hid (Blk v0_1 gk [.slice bs nb bc]) := HB.out.below b_
              replace HG : Hid (Blk v0_1 gs [.int .i64 0]) := HG.out.below b_
              replace HD : Hid (Lst (gs + 1) 106 2 v0_1 (.slice td nd kd) nd U) := HD.out.below b_
              replace HPB : Hid (PtKc B2 v0_1 (.slice bs nb bc) nb (fun j => 2 * ((j : Int) + 1)) (fun j => (j : Int) + 1) (fun _ => 1) (fun j _ => (j : Int))) := HPB.out.below b_
              replace HS : Hid (Below w.heap.size w v0_1) := HS.out.trans (b_.mono HS.out.size)
              try rw [← hlb]
              clear hv_ hlb b_
              refine hK.out _ _ (⟨HN.out.2.2 0 _ rfl, HN.out.2.2 1 _ rfl, HN.out.2.2 2 _ rfl, HB.out.2.2 0 _ rfl, HN.out.1, HB.out.1⟩) (fun hHeld => ?_)
              clear hK KK
              refine wpAnyH_take (i := 3) (v := .agg #[.int .i64 15, .int .i64 29, .slice (some ⟨lb, 0, none⟩) 1 1]) rfl (by kernel_rfl) (by kernel_rfl) (by kernel_rfl) (fun _ _ _ h => h) (Or.inl ⟨by kernel_rfl, ?_⟩) hHeld ?_
              · intro w' hSw
                obtain ⟨hc0, hc1, hc2, hc3, hz0, hz1⟩ := hSw
                first | (go_simp; done) | (go_simp; with_reducible rfl) | (go_simp; rw [IntKind.wrap_i64]; omega) | (go_simp; omega)
              simp only [Act.put, List.setIfInBounds_toArray, List.set_cons_zero, List.set_cons_succ]
              refine wpAnyH_ready (rs := [4]) (by kernel_rfl) (by simp) ?_
              refine (AllReadyH.cons rfl (fun KK hK => ?_) AllReadyH.nil)
              have u0 := H2.out.2.2 0 _ rfl
              have f0 := H2.out.2.1 0
              have u1 := H2.out.2.2 1 _ rfl
              have f1 := H2.out.2.1 1
              have u2 := H2.out.2.2 2 _ rfl
              have f2 := H2.out.2.1 2
              have uz := H2.out.1
              have hst := store_slT
              go_simp
              obtain ⟨v0_2, hv_⟩ : ∃ z, z = ((v0_1.setCell ⟨g2, 0, none⟩ (.int .i64 30)).setCell ⟨g2, 1, none⟩ (.slice td nd kd)).setCell ⟨g2, 2, none⟩ (.slice (some ⟨gs, 0, none⟩) 1 1) := ⟨_, rfl⟩
              rw [← hv_]
              have bs_ : Beside g2 v0_1 v0_2 := by rw [hv_]; exact ((Beside.setCell g2 _ 0 _).trans (Beside.setCell g2 _ 1 _)).trans (Beside.setCell g2 _ 2 _)
              replace H2 : Hid (Blk v0_2 g2 [.int .i64 30, .slice td nd kd, .slice (some ⟨gs, 0, none⟩) 1 1]) := by show Blk _ _ _; rw [hv_]; exact (((H2.out.set 0 _).set 1 _).set 2 _)
              replace H3 : Hid (Blk v0_2 g3 [.slice none 0 0]) := H3.out.beside bs_ (by omega)
              replace H4 : Hid (Blk v0_2 g4 [.int .i64 0, .int .i64 0, .slice none 0 0]) := H4.out.beside bs_ (by omega)
              replace HN : Hid (Blk v0_2 gn [.int .i64 30, .slice td nd kd, .slice (some ⟨gs, 0, none⟩) 1 1]) := HN.out.beside bs_ (by omega)
              replace HB : Hid (Blk v0_2 gk [.slice bs nb bc]) := HB.out.beside bs_ (by omega)
              replace HG : Hid (Blk v0_2 gs [.int .i64 0]) := HG.out.beside bs_ (by omega)
              replace HP : Hid (Blk v0_2 lb [.int .i64 28]) := HP.out.beside bs_ (by omega)
              replace HD : Hid (Lst (gs + 1) 106 2 v0_2 (.slice td nd kd) nd U) := HD.out.beside bs_ (by omega)
              replace HPB : Hid (PtKc B2 v0_2 (.slice bs nb bc) nb (fun j => 2 * ((j : Int) + 1)) (fun j => (j : Int) + 1) (fun _ => 1) (fun j _ => (j : Int))) := HPB.out.beside bs_ (by omega)
              replace HS : Hid (Below w.heap.size w v0_2) := HS.out.trans (bs_.below (by omega) HS.out.size)
              clear hv_ bs_ uz hst u0 f0 u1 f1 u2 f2
              refine hK.out _ _ (⟨HN.out.2.2 0 _ rfl, HN.out.2.2 1 _ rfl, HN.out.2.2 2 _ rfl, HB.out.2.2 0 _ rfl, HN.out.1, HB.out.1⟩) (fun hHeld => ?_)
              clear hK KK
              refine wpAnyH_ready (rs := [5]) (by kernel_rfl) (by simp) ?_
              refine (AllReadyH.cons rfl (fun KK hK => ?_) AllReadyH.nil)
              have u0 := H3.out.2.2 0 _ rfl
              have f0 := H3.out.2.1 0
              have uz := H3.out.1
              have hst := store_slT
              go_simp
              obtain ⟨v0_3, hv_⟩ : ∃ z, z = v0_2.setCell ⟨g3, 0, none⟩ (.slice bs nb bc) := ⟨_, rfl⟩
              rw [← hv_]
              have bs_ : Beside g3 v0_2 v0_3 := by rw [hv_]; exact Beside.setCell g3 _ 0 _
              replace H3 : Hid (Blk v0_3 g3 [.slice bs nb bc]) := by show Blk _ _ _; rw [hv_]; exact (H3.out.set 0 _)
              replace H2 : Hid (Blk v0_3 g2 [.int .i64 30, .slice td nd kd, .slice (some ⟨gs, 0, none⟩) 1 1]) := H2.out.beside bs_ (by omega)
              replace H4 : Hid (Blk v0_3 g4 [.int .i64 0, .int .i64 0, .slice none 0 0]) := H4.out.beside bs_ (by omega)
              replace HN : Hid (Blk v0_3 gn [.int .i64 30, .slice td nd kd, .slice (some ⟨gs, 0, none⟩) 1 1]) := HN.out.beside bs_ (by omega)
              replace HB : Hid (Blk v0_3 gk [.slice bs nb bc]) := HB.out.beside bs_ (by omega)
              replace HG : Hid (Blk v0_3 gs [.int .i64 0]) := HG.out.beside bs_ (by omega)
              replace HP : Hid (Blk v0_3 lb [.int .i64 28]) := HP.out.beside bs_ (by omega)
              replace HD : Hid (Lst (gs + 1) 106 2 v0_3 (.slice td nd kd) nd U) := HD.out.beside bs_ (by omega)
              replace HPB : Hid (PtKc B2 v0_3 (.slice bs nb bc) nb (fun j => 2 * ((j : Int) + 1)) (fun j => (j : Int) + 1) (fun _ => 1) (fun j _ => (j : Int))) := HPB.out.beside bs_ (by omega)
              replace HS : Hid (Below w.heap.size w v0_3) := HS.out.trans (bs_.below (by omega) HS.out.size)
              clear hv_ bs_ uz hst u0 f0
              refine hK.out _ _ (⟨HN.out.2.2 0 _ rfl, HN.out.2.2 1 _ rfl, HN.out.2.2 2 _ rfl, HB.out.2.2 0 _ rfl, HN.out.1, HB.out.1⟩) (fun hHeld => ?_)
              clear hK KK
              refine wpAnyH_ready (rs := [6]) (by kernel_rfl) (by simp) ?_
              refine (AllReadyH.cons rfl (fun KK hK => ?_) AllReadyH.nil)
              have u0 := H4.out.2.2 0 _ rfl
              have f0 := H4.out.2.1 0
              have u1 := H4.out.2.2 1 _ rfl
              have f1 := H4.out.2.1 1
              have u2 := H4.out.2.2 2 _ rfl
              have f2 := H4.out.2.1 2
              have uz := H4.out.1
              have hst := store_slT
              go_simp
              obtain ⟨v0_4, hv_⟩ : ∃ z, z = ((v0_3.setCell ⟨g4, 0, none⟩ (.int .i64 15)).setCell ⟨g4, 1, none⟩ (.int .i64 29)).setCell ⟨g4, 2, none⟩ (.slice (some ⟨lb, 0, none⟩) 1 1) := ⟨_, rfl⟩
              rw [← hv_]
              have bs_ : Beside g4 v0_3 v0_4 := by rw [hv_]; exact ((Beside.setCell g4 _ 0 _).trans (Beside.setCell g4 _ 1 _)).trans (Beside.setCell g4 _ 2 _)
              replace H4 : Hid (Blk v0_4 g4 [.int .i64 15, .int .i64 29, .slice (some ⟨lb, 0, none⟩) 1 1]) := by show Blk _ _ _; rw [hv_]; exact (((H4.out.set 0 _).set 1 _).set 2 _)
              replace H2 : Hid (Blk v0_4 g2 [.int .i64 30, .slice td nd kd, .slice (some ⟨gs, 0, none⟩) 1 1]) := H2.out.beside bs_ (by omega)
              replace H3 : Hid (Blk v0_4 g3 [.slice bs nb bc]) := H3.out.beside bs_ (by omega)
              replace HN : Hid (Blk v0_4 gn [.int .i64 30, .slice td nd kd, .slice (some ⟨gs, 0, none⟩) 1 1]) := HN.out.beside bs_ (by omega)
              replace HB : Hid (Blk v0_4 gk [.slice bs nb bc]) := HB.out.beside bs_ (by omega)
              replace HG : Hid (Blk v0_4 gs [.int .i64 0]) := HG.out.beside bs_ (by omega)
              replace HP : Hid (Blk v0_4 lb [.int .i64 28]) := HP.out.beside bs_ (by omega)
              replace HD : Hid (Lst (gs + 1) 106 2 v0_4 (.slice td nd kd) nd U) := HD.out.beside bs_ (by omega)
              replace HPB : Hid (PtKc B2 v0_4 (.slice bs nb bc) nb (fun j => 2 * ((j : Int) + 1)) (fun j => (j : Int) + 1) (fun _ => 1) (fun j _ => (j : Int))) := HPB.out.beside bs_ (by omega)
              replace HS : Hid (Below w.heap.size w v0_4) := HS.out.trans (bs_.below (by omega) HS.out.size)
              clear hv_ bs_ uz hst u0 f0 u1 f1 u2 f2
              refine hK.out _ _ (⟨HN.out.2.2 0 _ rfl, HN.out.2.2 1 _ rfl, HN.out.2.2 2 _ rfl, HB.out.2.2 0 _ rfl, HN.out.1, HB.out.1⟩) (fun hHeld => ?_)
              clear hK KK
              refine wpAnyH_done (by kernel_rfl) ?_ _
              clear hHeld
              have u20 := H2.out.2.2 0 _ rfl
              have u21 := H2.out.2.2 1 _ rfl
              have u22 := H2.out.2.2 2 _ rfl
              have u30 := H3.out.2.2 0 _ rfl
              have u40 := H4.out.2.2 0 _ rfl
              have u41 := H4.out.2.2 1 _ rfl
              have u42 := H4.out.2.2 2 _ rfl
              have n23 : g2 ≠ g3 := by omega
              have n24 : g2 ≠ g4 := by omega
              have n34 : g3 ≠ g4 := by omega
              go_wp2
              refine bodyPost_ret (v := .tuple #[.agg #[.int .i64 30, .slice td nd kd, .slice (some ⟨gs, 0, none⟩) 1 1], .agg #[.slice bs nb bc], .agg #[.int .i64 15, .int .i64 29, .slice (some ⟨lb, 0, none⟩) 1 1]]) (by simp [results, Try.results37, go_sem, u20, u21, u22, u30, u40, u41, u42]) rfl ?_
              exact ⟨30, td, nd, kd, some ⟨gs, 0, none⟩, 1, 1, _, fun _ => 0, bs, nb, bc, _, _, _, _, 15, 29, some ⟨lb, 0, none⟩, 1, 1, fun _ => 28, rfl, by have := hn29.out; omega, by omega, hnb, HPB.out.f.row.2, by omega, fun i hi => by omega, HD.out.duct, blk_row1 HG.out, HPB.out.f.row.1, blk_row1 HP.out, HS.out⟩
            · have u0 := H2.out.2.2 0 _ rfl
              have f0 := H2.out.2.1 0
              have u1 := H2.out.2.2 1 _ rfl
              have f1 := H2.out.2.1 1
              have u2 := H2.out.2.2 2 _ rfl
              have f2 := H2.out.2.1 2
              have uz := H2.out.1
              have hst := store_slT
              go_simp
              obtain ⟨v0_5, hv_⟩ : ∃ z, z = ((v0.setCell ⟨g2, 0, none⟩ (.int .i64 30)).setCell ⟨g2, 1, none⟩ (.slice td nd kd)).setCell ⟨g2, 2, none⟩ (.slice (some ⟨gs, 0, none⟩) 1 1) := ⟨_, rfl⟩
              rw [← hv_]
              have bs_ : Beside g2 v0 v0_5 := by rw [hv_]; exact ((Beside.setCell g2 _ 0 _).trans (Beside.setCell g2 _ 1 _)).trans (Beside.setCell g2 _ 2 _)
              replace H2 : Hid (Blk v0_5 g2 [.int .i64 30, .slice td nd kd, .slice (some ⟨gs, 0, none⟩) 1 1]) := by show Blk _ _ _; rw [hv_]; exact (((H2.out.set 0 _).set 1 _).set 2 _)
              replace H3 : Hid (Blk v0_5 g3 [.slice none 0 0]) := H3.out.beside bs_ (by omega)
              replace H4 : Hid (Blk v0_5 g4 [.int .i64 0, .int .i64 0, .slice none 0 0]) := H4.out.beside bs_ (by omega)
              replace HN : Hid (Blk v0_5 gn [.int .i64 30, .slice td nd kd, .slice (some ⟨gs, 0, none⟩) 1 1]) := HN.out.beside bs_ (by omega)
              replace HB : Hid (Blk v0_5 gk [.slice bs nb bc]) := HB.out.beside bs_ (by omega)
              replace HG : Hid (Blk v0_5 gs [.int .i64 0]) := HG.out.beside bs_ (by omega)
              replace HD : Hid (Lst (gs + 1) 106 2 v0_5 (.slice td nd kd) nd U) := HD.out.beside bs_ (by omega)
              replace HPB : Hid (PtKc B2 v0_5 (.slice bs nb bc) nb (fun j => 2 * ((j : Int) + 1)) (fun j => (j : Int) + 1) (fun _ => 1) (fun j _ => (j : Int))) := HPB.out.beside bs_ (by omega)
              replace HS : Hid (Below w.heap.size w v0_5) := HS.out.trans (bs_.below (by omega) HS.out.size)
              clear hv_ bs_ uz hst u0 f0 u1 f1 u2 f2
              refine hK.out _ _ (⟨HN.out.2.2 0 _ rfl, HN.out.2.2 1 _ rfl, HN.out.2.2 2 _ rfl, HB.out.2.2 0 _ rfl, HN.out.1, HB.out.1⟩) (fun hHeld => ?_)
              clear hK KK
              refine wpAnyH_ready (rs := [2, 5]) (by kernel_rfl) (by simp) ?_
              refine (AllReadyH.cons rfl (fun KK hK => ?_) (AllReadyH.cons rfl (fun KK hK => ?_) AllReadyH.nil))
              · go_simp
                obtain ⟨v0_6, hv_⟩ : ∃ z, z = v0_5.alloc (.cells #[.int .i64 28] 2) := ⟨_, rfl⟩
                rw [← hv_]
                obtain ⟨lb, hlb⟩ : ∃ z, z = v0_5.heap.size := ⟨_, rfl⟩
                have b_ : Below v0_5.heap.size v0_5 v0_6 := by rw [hv_]; exact below0 _ _
                have HP : Hid (Blk v0_6 lb [.int .i64 28]) := by show Blk _ _ _; rw [hv_, hlb]; exact Blk.new v0_5 #[.int .i64 28] _
                have zlb : gk < lb := by have := HB.out.1; omega
                replace H2 : Hid (Blk v0_6 g2 [.int .i64 30, .slice td nd kd, .slice (some ⟨gs, 0, none⟩) 1 1]) := H2.out.below b_
                replace H3 : Hid (Blk v0_6 g3 [.slice none 0 0]) := H3.out.below b_
                replace H4 : Hid (Blk v0_6 g4 [.int .i64 0, .int .i64 0, .slice none 0 0]) := H4.out.below b_
                replace HN : Hid (Blk v0_6 gn [.int .i64 30, .slice td nd kd, .slice (some ⟨gs, 0, none⟩) 1 1]) := HN.out.below b_
                replace HB : Hid (Blk v0_6 gk [.slice bs nb bc]) := HB.out.below b_
                replace HG : Hid (Blk v0_6 gs [.int .i64 0]) := HG.out.below b_
                replace HD : Hid (Lst (gs + 1) 106 2 v0_6 (.slice td nd kd) nd U) := HD.out.below b_
                replace HPB : Hid (PtKc B2 v0_6 (.slice bs nb bc) nb (fun j => 2 * ((j : Int) + 1)) (fun j => (j : Int) + 1) (fun _ => 1) (fun j _ => (j : Int))) := HPB.out.below b_
                replace HS : Hid (Below w.heap.size w v0_6) := HS.out.trans (b_.mono HS.out.size)
                try rw [← hlb]
                clear hv_ hlb b_
                refine hK.out _ _ (⟨HN.out.2.2 0 _ rfl, HN.out.2.2 1 _ rfl, HN.out.2.2 2 _ rfl, HB.out.2.2 0 _ rfl, HN.out.1, HB.out.1⟩) (fun hHeld => ?_)
                clear hK KK
                refine wpAnyH_take (i := 3) (v := .agg #[.int .i64 15, .int .i64 29, .slice (some ⟨lb, 0, none⟩) 1 1]) rfl (by kernel_rfl) (by kernel_rfl) (by kernel_rfl) (fun _ _ _ h => h) (Or.inl ⟨by kernel_rfl, ?_⟩) hHeld ?_
                · intro w' hSw
                  obtain ⟨hc0, hc1, hc2, hc3, hz0, hz1⟩ := hSw
                  first | (go_simp; done) | (go_simp; with_reducible rfl) | (go_simp; rw [IntKind.wrap_i64]; omega) | (go_simp; omega)
                simp only [Act.put, List.setIfInBounds_toArray, List.set_cons_zero, List.set_cons_succ]
                refine wpAnyH_ready (rs := [5]) (by kernel_rfl) (by simp) ?_
                refine (AllReadyH.cons rfl (fun KK hK => ?_) AllReadyH.nil)
                have u0 := H3.out.2.2 0 _ rfl
                have f0 := H3.out.2.1 0
                have uz := H3.out.1
                have hst := store_slT
                go_simp
                obtain ⟨v0_7, hv_⟩ : ∃ z, z = v0_6.setCell ⟨g3, 0, none⟩ (.slice bs nb bc) := ⟨_, rfl⟩
                rw [← hv_]
                have bs_ : Beside g3 v0_6 v0_7 := by rw [hv_]; exact Beside.setCell g3 _ 0 _
                replace H3 : Hid (Blk v0_7 g3 [.slice bs nb bc]) := by show Blk _ _ _; rw [hv_]; exact (H3.out.set 0 _)
                replace H2 : Hid (Blk v0_7 g2 [.int .i64 30, .slice td nd kd, .slice (some ⟨gs, 0, none⟩) 1 1]) := H2.out.beside bs_ (by omega)
                replace H4 : Hid (Blk v0_7 g4 [.int .i64 0, .int .i64 0, .slice none 0 0]) := H4.out.beside bs_ (by omega)
                replace HN : Hid (Blk v0_7 gn [.int .i64 30, .slice td nd kd, .slice (some ⟨gs, 0, none⟩) 1 1]) := HN.out.beside bs_ (by omega)
                replace HB : Hid (Blk v0_7 gk [.slice bs nb bc]) := HB.out.beside bs_ (by omega)
                replace HG : Hid (Blk v0_7 gs [.int .i64 0]) := HG.out.beside bs_ (by omega)
                replace HP : Hid (Blk v0_7 lb [.int .i64 28]) := HP.out.beside bs_ (by omega)
                replace HD : Hid (Lst (gs + 1) 106 2 v0_7 (.slice td nd kd) nd U) := HD.out.beside bs_ (by omega)
                replace HPB : Hid (PtKc B2 v0_7 (.slice bs nb bc) nb (fun j => 2 * ((j : Int) + 1)) (fun j => (j : Int) + 1) (fun _ => 1) (fun j _ => (j : Int))) := HPB.out.beside bs_ (by omega)
                replace HS : Hid (Below w.heap.size w v0_7) := HS.out.trans (bs_.below (by omega) HS.out.size)
                clear hv_ bs_ uz hst u0 f0
                refine hK.out _ _ (⟨HN.out.2.2 0 _ rfl, HN.out.2.2 1 _ rfl, HN.out.2.2 2 _ rfl, HB.out.2.2 0 _ rfl, HN.out.1, HB.out.1⟩) (fun hHeld => ?_)
                clear hK KK
                refine wpAnyH_ready (rs := [6]) (by kernel_rfl) (by simp) ?_
                refine (AllReadyH.cons rfl (fun KK hK => ?_) AllReadyH.nil)
                have u0 := H4.out.2.2 0 _ rfl
                have f0 := H4.out.2.1 0
                have u1 := H4.out.2.2 1 _ rfl
                have f1 := H4.out.2.1 1
                have u2 := H4.out.2.2 2 _ rfl
                have f2 := H4.out.2.1 2
                have uz := H4.out.1
                have hst := store_slT
                go_simp
                obtain ⟨v0_8, hv_⟩ : ∃ z, z = ((v0_7.setCell ⟨g4, 0, none⟩ (.int .i64 15)).setCell ⟨g4, 1, none⟩ (.int .i64 29)).setCell ⟨g4, 2, none⟩ (.slice (some ⟨lb, 0, none⟩) 1 1) := ⟨_, rfl⟩
                rw [← hv_]
                have bs_ : Beside g4 v0_7 v0_8 := by rw [hv_]; exact ((Beside.setCell g4 _ 0 _).trans (Beside.setCell g4 _ 1 _)).trans (Beside.setCell g4 _ 2 _)
                replace H4 : Hid (Blk v0_8 g4 [.int .i64 15, .int .i64 29, .slice (some ⟨lb, 0, none⟩) 1 1]) := by show Blk _ _ _; rw [hv_]; exact (((H4.out.set 0 _).set 1 _).set 2 _)
                replace H2 : Hid (Blk v0_8 g2 [.int .i64 30, .slice td nd kd, .slice (some ⟨gs, 0, none⟩) 1 1]) := H2.out.beside bs_ (by omega)
                replace H3 : Hid (Blk v0_8 g3 [.slice bs nb bc]) := H3.out.beside bs_ (by omega)
                replace HN : Hid (Blk v0_8 gn [.int .i64 30, .slice td nd kd, .slice (some ⟨gs, 0, none⟩) 1 1]) := HN.out.beside bs_ (by omega)
                replace HB : Hid (Blk v0_8 gk [.slice bs nb bc]) := HB.out.beside bs_ (by omega)
                replace HG : Hid (Blk v0_8 gs [.int .i64 0]) := HG.out.beside bs_ (by omega)
                replace HP : Hid (Blk v0_8 lb [.int .i64 28]) := HP.out.beside bs_ (by omega)
                replace HD : Hid (Lst (gs + 1) 106 2 v0_8 (.slice td nd kd) nd U) := HD.out.beside bs_ (by omega)
                replace HPB : Hid (PtKc B2 v0_8 (.slice bs nb bc) nb (fun j => 2 * ((j : Int) + 1)) (fun j => (j : Int) + 1) (fun _ => 1) (fun j _ => (j : Int))) := HPB.out.beside bs_ (by omega)
                replace HS : Hid (Below w.heap.size w v0_8) := HS.out.trans (bs_.below (by omega) HS.out.size)
                clear hv_ bs_ uz hst u0 f0 u1 f1 u2 f2
                refine hK.out _ _ (⟨HN.out.2.2 0 _ rfl, HN.out.2.2 1 _ rfl, HN.out.2.2 2 _ rfl, HB.out.2.2 0 _ rfl, HN.out.1, HB.out.1⟩) (fun hHeld => ?_)
                clear hK KK
                refine wpAnyH_done (by kernel_rfl) ?_ _
                clear hHeld
                have u20 := H2.out.2.2 0 _ rfl
                have u21 := H2.out.2.2 1 _ rfl
                have u22 := H2.out.2.2 2 _ rfl
                have u30 := H3.out.2.2 0 _ rfl
                have u40 := H4.out.2.2 0 _ rfl
                have u41 := H4.out.2.2 1 _ rfl
                have u42 := H4.out.2.2 2 _ rfl
                have n23 : g2 ≠ g3 := by omega
                have n24 : g2 ≠ g4 := by omega
                have n34 : g3 ≠ g4 := by omega
                go_wp2
                refine bodyPost_ret (v := .tuple #[.agg #[.int .i64 30, .slice td nd kd, .slice (some ⟨gs, 0, none⟩) 1 1], .agg #[.slice bs nb bc], .agg #[.int .i64 15, .int .i64 29, .slice (some ⟨lb, 0, none⟩) 1 1]]) (by simp [results, Try.results37, go_sem, u20, u21, u22, u30, u40, u41, u42]) rfl ?_
                exact ⟨30, td, nd, kd, some ⟨gs, 0, none⟩, 1, 1, _, fun _ => 0, bs, nb, bc, _, _, _, _, 15, 29, some ⟨lb, 0, none⟩, 1, 1, fun _ => 28, rfl, by have := hn29.out; omega, by omega, hnb, HPB.out.f.row.2, by omega, fun i hi => by omega, HD.out.duct, blk_row1 HG.out, HPB.out.f.row.1, blk_row1 HP.out, HS.out⟩
              · have u0 := H3.out.2.2 0 _ rfl
                have f0 := H3.out.2.1 0
                have uz := H3.out.1
                have hst := store_slT
                go_simp
                obtain ⟨v0_9, hv_⟩ : ∃ z, z = v0_5.setCell ⟨g3, 0, none⟩ (.slice bs nb bc) := ⟨_, rfl⟩
                rw [← hv_]
                have bs_ : Beside g3 v0_5 v0_9 := by rw [hv_]; exact Beside.setCell g3 _ 0 _
                replace H3 : Hid (Blk v0_9 g3 [.slice bs nb bc]) := by show Blk _ _ _; rw [hv_]; exact (H3.out.set 0 _)
                replace H2 : Hid (Blk v0_9 g2 [.int .i64 30, .slice td nd kd, .slice (some ⟨gs, 0, none⟩) 1 1]) := H2.out.beside bs_ (by omega)
                replace H4 : Hid (Blk v0_9 g4 [.int .i64 0, .int .i64 0, .slice none 0 0]) := H4.out.beside bs_ (by omega)
                replace HN : Hid (Blk v0_9 gn [.int .i64 30, .slice td nd kd, .slice (some ⟨gs, 0, none⟩) 1 1]) := HN.out.beside bs_ (by omega)
                replace HB : Hid (Blk v0_9 gk [.slice bs nb bc]) := HB.out.beside bs_ (by omega)
                replace HG : Hid (Blk v0_9 gs [.int .i64 0]) := HG.out.beside bs_ (by omega)
                replace HD : Hid (Lst (gs + 1) 106 2 v0_9 (.slice td nd kd) nd U) := HD.out.beside bs_ (by omega)
                replace HPB : Hid (PtKc B2 v0_9 (.slice bs nb bc) nb (fun j => 2 * ((j : Int) + 1)) (fun j => (j : Int) + 1) (fun _ => 1) (fun j _ => (j : Int))) := HPB.out.beside bs_ (by omega)
                replace HS : Hid (Below w.heap.size w v0_9) := HS.out.trans (bs_.below (by omega) HS.out.size)
                clear hv_ bs_ uz hst u0 f0
                refine hK.out _ _ (⟨HN.out.2.2 0 _ rfl, HN.out.2.2 1 _ rfl, HN.out.2.2 2 _ rfl, HB.out.2.2 0 _ rfl, HN.out.1, HB.out.1⟩) (fun hHeld => ?_)
                clear hK KK
                refine wpAnyH_ready (rs := [2]) (by kernel_rfl) (by simp) ?_
                refine (AllReadyH.cons rfl (fun KK hK => ?_) AllReadyH.nil)
                go_simp
                obtain ⟨v0_10, hv_⟩ : ∃ z, z = v0_9.alloc (.cells #[.int .i64 28] 2) := ⟨_, rfl⟩
                rw [← hv_]
                obtain ⟨lb, hlb⟩ : ∃ z, z = v0_9.heap.size := ⟨_, rfl⟩
                have b_ : Below v0_9.heap.size v0_9 v0_10 := by rw [hv_]; exact below0 _ _
                have HP : Hid (Blk v0_10 lb [.int .i64 28]) := by show Blk _ _ _; rw [hv_, hlb]; exact Blk.new v0_9 #[.int .i64 28] _
                have zlb : gk < lb := by have := HB.out.1; omega
                replace H2 : Hid (Blk v0_10 g2 [.int .i64 30, .slice td nd kd, .slice (some ⟨gs, 0, none⟩) 1 1]) := H2.out.below b_
                replace H3 : Hid (Blk v0_10 g3 [.slice bs nb bc]) := H3.out.below b_
                replace H4 : Hid (Blk v0_10 g4 [.int .i64 0, .int .i64 0, .slice none 0 0]) := H4.out.below b_
                replace HN : Hid (Blk v0_10 gn [.int .i64 30, .slice td nd kd, .slice (some ⟨gs, 0, none⟩) 1 1]) := HN.out.below b_
                replace HB : Hid (Blk v0_10 gk [.slice bs nb bc]) := HB.out.below b_
                replace HG : Hid (Blk v0_10 gs [.int .i64 0]) := HG.out.below b_
                replace HD : Hid (Lst (gs + 1) 106 2 v0_10 (.slice td nd kd) nd U) := HD.out.below b_
                replace HPB : Hid (PtKc B2 v0_10 (.slice bs nb bc) nb (fun j => 2 * ((j : Int) + 1)) (fun j => (j : Int) + 1) (fun _ => 1) (fun j _ => (j : Int))) := HPB.out.below b_
                replace HS : Hid (Below w.heap.size w v0_10) := HS.out.trans (b_.mono HS.out.size)
                try rw [← hlb]
                clear hv_ hlb b_
                refine hK.out _ _ (⟨HN.out.2.2 0 _ rfl, HN.out.2.2 1 _ rfl, HN.out.2.2 2 _ rfl, HB.out.2.2 0 _ rfl, HN.out.1, HB.out.1⟩) (fun hHeld => ?_)
                clear hK KK
                refine wpAnyH_take (i := 3) (v := .agg #[.int .i64 15, .int .i64 29, .slice (some ⟨lb, 0, none⟩) 1 1]) rfl (by kernel_rfl) (by kernel_rfl) (by kernel_rfl) (fun _ _ _ h => h) (Or.inl ⟨by kernel_rfl, ?_⟩) hHeld ?_
                · intro w' hSw
                  obtain ⟨hc0, hc1, hc2, hc3, hz0, hz1⟩ := hSw
                  first | (go_simp; done) | (go_simp; with_reducible rfl) | (go_simp; rw [IntKind.wrap_i64]; omega) | (go_simp; omega)
                simp only [Act.put, List.setIfInBounds_toArray, List.set_cons_zero, List.set_cons_succ]
                refine wpAnyH_ready (rs := [6]) (by kernel_rfl) (by simp) ?_
                refine (AllReadyH.cons rfl (fun KK hK => ?_) AllReadyH.nil)
                have u0 := H4.out.2.2 0 _ rfl
                have f0 := H4.out.2.1 0
                have u1 := H4.out.2.2 1 _ rfl
                have f1 := H4.out.2.1 1
                have u2 := H4.out.2.2 2 _ rfl
                have f2 := H4.out.2.1 2
                have uz := H4.out.1
                have hst := store_slT
                go_simp
                obtain ⟨v0_11, hv_⟩ : ∃ z, z = ((v0_10.setCell ⟨g4, 0, none⟩ (.int .i64 15)).setCell ⟨g4, 1, none⟩ (.int .i64 29)).setCell ⟨g4, 2, none⟩ (.slice (some ⟨lb, 0, none⟩) 1 1) := ⟨_, rfl⟩
                rw [← hv_]
                have bs_ : Beside g4 v0_10 v0_11 := by rw [hv_]; exact ((Beside.setCell g4 _ 0 _).trans (Beside.setCell g4 _ 1 _)).trans (Beside.setCell g4 _ 2 _)
                replace H4 : Hid (Blk v0_11 g4 [.int .i64 15, .int .i64 29, .slice (some ⟨lb, 0, none⟩) 1 1]) := by show Blk _ _ _; rw [hv_]; exact (((H4.out.set 0 _).set 1 _).set 2 _)
                replace H2 : Hid (Blk v0_11 g2 [.int .i64 30, .slice td nd kd, .slice (some ⟨gs, 0, none⟩) 1 1]) := H2.out.beside bs_ (by omega)
                replace H3 : Hid (Blk v0_11 g3 [.slice bs nb bc]) := H3.out.beside bs_ (by omega)
                replace HN : Hid (Blk v0_11 gn [.int .i64 30, .slice td nd kd, .slice (some ⟨gs, 0, none⟩) 1 1]) := HN.out.beside bs_ (by omega)
                replace HB : Hid (Blk v0_11 gk [.slice bs nb bc]) := HB.out.beside bs_ (by omega)
                replace HG : Hid (Blk v0_11 gs [.int .i64 0]) := HG.out.beside bs_ (by omega)
                replace HP : Hid (Blk v0_11 lb [.int .i64 28]) := HP.out.beside bs_ (by omega)
                replace HD : Hid (Lst (gs + 1) 106 2 v0_11 (.slice td nd kd) nd U) := HD.out.beside bs_ (by omega)
                replace HPB : Hid (PtKc B2 v0_11 (.slice bs nb bc) nb (fun j => 2 * ((j : Int) + 1)) (fun j => (j : Int) + 1) (fun _ => 1) (fun j _ => (j : Int))) := HPB.out.beside bs_ (by omega)
                replace HS : Hid (Below w.heap.size w v0_11) := HS.out.trans (bs_.below (by omega) HS.out.size)
                clear hv_ bs_ uz hst u0 f0 u1 f1 u2 f2
                refine hK.out _ _ (⟨HN.out.2.2 0 _ rfl, HN.out.2.2 1 _ rfl, HN.out.2.2 2 _ rfl, HB.out.2.2 0 _ rfl, HN.out.1, HB.out.1⟩) (fun hHeld => ?_)
                clear hK KK
                refine wpAnyH_done (by kernel_rfl) ?_ _
                clear hHeld
                have u20 := H2.out.2.2 0 _ rfl
                have u21 := H2.out.2.2 1 _ rfl
                have u22 := H2.out.2.2 2 _ rfl
                have u30 := H3.out.2.2 0 _ rfl
                have u40 := H4.out.2.2 0 _ rfl
                have u41 := H4.out.2.2 1 _ rfl
                have u42 := H4.out.2.2 2 _ rfl
                have n23 : g2 ≠ g3 := by omega
                have n24 : g2 ≠ g4 := by omega
                have n34 : g3 ≠ g4 := by omega
                go_wp2
                refine bodyPost_ret (v := .tuple #[.agg #[.int .i64 30, .slice td nd kd, .slice (some ⟨gs, 0, none⟩) 1 1], .agg #[.slice bs nb bc], .agg #[.int .i64 15, .int .i64 29, .slice (some ⟨lb, 0, none⟩) 1 1]]) (by simp [results, Try.results37, go_sem, u20, u21, u22, u30, u40, u41, u42]) rfl ?_
                exact ⟨30, td, nd, kd, some ⟨gs, 0, none⟩, 1, 1, _, fun _ => 0, bs, nb, bc, _, _, _, _, 15, 29, some ⟨lb, 0, none⟩, 1, 1, fun _ => 28, rfl, by have := hn29.out; omega, by omega, hnb, HPB.out.f.row.2, by omega, fun i hi => by omega, HD.out.duct, blk_row1 HG.out, HPB.out.f.row.1, blk_row1 HP.out, HS.out⟩
  case false =>
    obtain ⟨B, hB⟩ : ∃ B, B = w6.heap.size := ⟨_, rfl⟩
    have HK : Hid (KpR r w6 w6) := KpR.refl _ _
    have zkB : gk < B := by have := HB.out.1; omega
    have z6B : w6.heap.size ≤ B := by omega
    obtain ⟨q0, R0⟩ := HR.out
    have HDx : Hid (RowDuct w6 td nd (fun i => (UD (i * 2), UD (i * 2 + 1)))) := HD.out.duct
    have HLx : Hid (RowI w6 ts ns US) := HL.out.src
    have c0 := HN.out.2.2 0 _ rfl
    have c1 := HN.out.2.2 1 _ rfl
    have c2 := HN.out.2.2 2 _ rfl
    have cz := HN.out.1
    go_wp2_with fail
    refine (permit_any hnd hns HDx HLx HTD HTS R0).mono ?_
    rintro e w7 hP
    unfold PmPost at hP
    obtain ⟨a, x, t, k, kc, U, p7, rfl, hk7, PL, R7, b7⟩ := hP
    have HPL : Hid (Lst B 2 1 w7 (.slice t k kc) k U) := by show Lst _ _ _ _ _ _ _; rw [hB]; exact PL
    have zB7 : B ≤ w7.heap.size := by rw [hB]; exact b7.2.2.2.1
    clear PL hB R0 HDx HLx HTD HTS
    clear c0 c1 c2 cz
    replace H2 : Hid (Blk w7 g2 [.int .i64 0, .slice none 0 0, .slice none 0 0]) := H2.out.beside b7 (by omega)
    replace H3 : Hid (Blk w7 g3 [.slice none 0 0]) := H3.out.beside b7 (by omega)
    replace H4 : Hid (Blk w7 g4 [.int .i64 0, .int .i64 0, .slice none 0 0]) := H4.out.beside b7 (by omega)
    replace HN : Hid (Blk w7 gn [.int .i64 P, .slice td nd kd, .slice ts ns ks]) := HN.out.beside b7 (by omega)
    replace HB : Hid (Blk w7 gk [.slice bs nb bc]) := HB.out.beside b7 (by omega)
    replace HK : Hid (KpR r w6 w7) := HK.out.reader b7
    replace HS : Hid (Below w.heap.size w w7) := HS.out.trans (b7.below (by omega) HS.out.size)
    replace HR : Hid (∃ q, Rd w7 r s n c q) := ⟨_, R7⟩
    clear R7 b7
    go_upto_region 17 with fail
    obtain ⟨w8, hx_⟩ : ∃ z, z = w7.alloc (.cells #[.int .i64 a, .int .i64 x, .slice t k kc] 44) := ⟨_, rfl⟩
    try rw [← hx_]
    obtain ⟨gp, hg_⟩ : ∃ z, z = w7.heap.size := ⟨_, rfl⟩
    have HNE : Hid (∀ g, Value.ownBlock (.slice t k kc) = some g → g ≠ gp) := fun g hg => by have := (HPL.out.lt g hg).2; omega
    have zBp : B ≤ gp := by omega
    have b_ : Below w7.heap.size w7 w8 := by rw [hx_]; exact below0 _ _
    have HP : Hid (Blk w8 gp [.int .i64 a, .int .i64 x, .slice t k kc]) := by show Blk _ _ _; rw [hx_, hg_]; exact Blk.new w7 #[.int .i64 a, .int .i64 x, .slice t k kc] _
    replace H2 : Hid (Blk w8 g2 [.int .i64 0, .slice none 0 0, .slice none 0 0]) := H2.out.below b_
    replace H3 : Hid (Blk w8 g3 [.slice none 0 0]) := H3.out.below b_
    replace H4 : Hid (Blk w8 g4 [.int .i64 0, .int .i64 0, .slice none 0 0]) := H4.out.below b_
    replace HN : Hid (Blk w8 gn [.int .i64 P, .slice td nd kd, .slice ts ns ks]) := HN.out.below b_
    replace HB : Hid (Blk w8 gk [.slice bs nb bc]) := HB.out.below b_
    replace HPL : Hid (Lst B 2 1 w8 (.slice t k kc) k U) := HPL.out.below b_
    replace HK : Hid (KpR r w6 w8) := HK.out.below b_
    replace HR : Hid (∃ q, Rd w8 r s n c q) := by obtain ⟨q_, R_⟩ := HR.out; exact ⟨q_, R_.below b_⟩
    replace HS : Hid (Below w.heap.size w w8) := HS.out.trans (b_.mono HS.out.size)
    try rw [← hg_]
    clear hx_ hg_ b_ zB7
    obtain ⟨q0, R0⟩ := HR.out
    go_wp2_with fail
    refine (once_any 16 (by omega) (by omega) R0).mono ?_
    rintro e w9 ⟨bo, q9, rfl, R9, b9⟩
    replace H2 : Hid (Blk w9 g2 [.int .i64 0, .slice none 0 0, .slice none 0 0]) := H2.out.beside b9 (by omega)
    replace H3 : Hid (Blk w9 g3 [.slice none 0 0]) := H3.out.beside b9 (by omega)
    replace H4 : Hid (Blk w9 g4 [.int .i64 0, .int .i64 0, .slice none 0 0]) := H4.out.beside b9 (by omega)
    replace HN : Hid (Blk w9 gn [.int .i64 P, .slice td nd kd, .slice ts ns ks]) := HN.out.beside b9 (by omega)
    replace HB : Hid (Blk w9 gk [.slice bs nb bc]) := HB.out.beside b9 (by omega)
    replace HP : Hid (Blk w9 gp [.int .i64 a, .int .i64 x, .slice t k kc]) := HP.out.beside b9 (by omega)
    replace HPL : Hid (Lst B 2 1 w9 (.slice t k kc) k U) := HPL.out.beside b9 (by omega)
    replace HK : Hid (KpR r w6 w9) := HK.out.reader b9
    replace HS : Hid (Below w.heap.size w w9) := HS.out.trans (b9.below (by omega) HS.out.size)
    replace HR : Hid (∃ q, Rd w9 r s n c q) := ⟨_, R9⟩
    clear R0 R9 b9
    go_upto_if 61 with fail
    go_cut [] (fun wx => ∃ (t2 : Option Addr) (k2 kc2 : Nat) (U2 : Nat → Int), k2 ≤ 70001 ∧ Hid (Blk wx gp [.int .i64 a, .int .i64 x, .slice t2 k2 kc2]) ∧ Hid (Lst B 2 1 wx (.slice t2 k2 kc2) k2 U2) ∧ Hid (∀ g, Value.ownBlock (.slice t2 k2 kc2) = some g → g ≠ gp) ∧ Hid (∃ q, Rd wx r s n c q) ∧ Hid (Below w.heap.size w wx) ∧ Hid (Blk wx gn [.int .i64 P, .slice td nd kd, .slice ts ns ks]) ∧ Hid (Blk wx gk [.slice bs nb bc]) ∧ Hid (Blk wx g2 [.int .i64 0, .slice none 0 0, .slice none 0 0]) ∧ Hid (Blk wx g3 [.slice none 0 0]) ∧ Hid (Blk wx g4 [.int .i64 0, .int .i64 0, .slice none 0 0]) ∧ Hid (KpR r w6 wx))
    case first =>
      cases bo
      case false =>
        go_wp2_with fail
        go_meet
        exact ⟨t, k, kc, U, by omega, HP, HPL, HNE, HR, HS, HN, HB, H2, H3, H4, HK⟩
      case true =>
        obtain ⟨mm, hmm⟩ : ∃ m, IntKind.i64.wrap ((nd : Int) - 1) = m := ⟨_, rfl⟩
        go_upto_region 18 with fail
        refine wp_region_held_drew (S := fun w' => w'.cell? ⟨gn, 1, none⟩ = some (.slice td nd kd) ∧ gn < w'.heap.size) (by kernel_rfl) ?_ (fun hHeld => ?_)
        · exact ⟨HN.out.2.2 1 _ rfl, HN.out.1⟩
        obtain ⟨v0, hv0⟩ : ∃ z, z = w9.drew := ⟨_, rfl⟩
        try rw [← hv0] at hHeld
        rw [← hv0]
        have bv0 : Below w9.heap.size w9 v0 := by rw [hv0]; exact Below.drew (Below.refl _ _)
        clear hv0
        replace H2 : Hid (Blk v0 g2 [.int .i64 0, .slice none 0 0, .slice none 0 0]) := H2.out.below bv0
        replace H3 : Hid (Blk v0 g3 [.slice none 0 0]) := H3.out.below bv0
        replace H4 : Hid (Blk v0 g4 [.int .i64 0, .int .i64 0, .slice none 0 0]) := H4.out.below bv0
        replace HN : Hid (Blk v0 gn [.int .i64 P, .slice td nd kd, .slice ts ns ks]) := HN.out.below bv0
        replace HB : Hid (Blk v0 gk [.slice bs nb bc]) := HB.out.below bv0
        replace HP : Hid (Blk v0 gp [.int .i64 a, .int .i64 x, .slice t k kc]) := HP.out.below bv0
        replace HPL : Hid (Lst B 2 1 v0 (.slice t k kc) k U) := HPL.out.below bv0
        replace HK : Hid (KpR r w6 v0) := HK.out.below bv0
        replace HR : Hid (∃ q, Rd v0 r s n c q) := by obtain ⟨q_, R_⟩ := HR.out; exact ⟨q_, R_.below bv0⟩
        replace HS : Hid (Below w.heap.size w v0) := HS.out.trans (bv0.mono HS.out.size)
        clear bv0
        refine wpAnyH_take (i := 0) (v := .pointer (some ⟨gp, 2, none⟩)) rfl (by kernel_rfl) (by kernel_rfl) (by kernel_rfl) (fun _ _ _ h => h) (Or.inl ⟨by kernel_rfl, ?_⟩) hHeld ?_
        · intro w' hSw
          obtain ⟨hc0, hz0⟩ := hSw
          first | (go_simp; done) | (go_simp; with_reducible rfl) | (go_simp; rw [IntKind.wrap_i64]; omega) | (go_simp; omega)
        simp only [Act.put, List.setIfInBounds_toArray, List.set_cons_zero, List.set_cons_succ]
        refine wpAnyH_take (i := 2) (v := .pointer (some ⟨r, 0, none⟩)) rfl (by kernel_rfl) (by kernel_rfl) (by kernel_rfl) (fun _ _ _ h => h) (Or.inl ⟨by kernel_rfl, ?_⟩) hHeld ?_
        · intro w' hSw
          obtain ⟨hc0, hz0⟩ := hSw
          first | (go_simp; done) | (go_simp; with_reducible rfl) | (go_simp; rw [IntKind.wrap_i64]; omega) | (go_simp; omega)
        simp only [Act.put, List.setIfInBounds_toArray, List.set_cons_zero, List.set_cons_succ]
        refine wpAnyH_take (i := 3) (v := .pointer (some ⟨gn, 1, none⟩)) rfl (by kernel_rfl) (by kernel_rfl) (by kernel_rfl) (fun _ _ _ h => h) (Or.inl ⟨by kernel_rfl, ?_⟩) hHeld ?_
        · intro w' hSw
          obtain ⟨hc0, hz0⟩ := hSw
          first | (go_simp; done) | (go_simp; with_reducible rfl) | (go_simp; rw [IntKind.wrap_i64]; omega) | (go_simp; omega)
        simp only [Act.put, List.setIfInBounds_toArray, List.set_cons_zero, List.set_cons_succ]
        refine wpAnyH_take (i := 4) (v := .slice td nd kd) rfl (by kernel_rfl) (by kernel_rfl) (by kernel_rfl) (fun _ _ _ h => h) (Or.inl ⟨by kernel_rfl, ?_⟩) hHeld ?_
        · intro w' hSw
          obtain ⟨hc0, hz0⟩ := hSw
          first | (go_simp; done) | (go_simp; with_reducible rfl) | (go_simp; rw [IntKind.wrap_i64]; omega) | (go_simp; omega)
        simp only [Act.put, List.setIfInBounds_toArray, List.set_cons_zero, List.set_cons_succ]
        refine wpAnyH_take (i := 5) (v := .int .i64 (nd : Int)) rfl (by kernel_rfl) (by kernel_rfl) (by kernel_rfl) (fun _ _ _ h => h) (Or.inl ⟨by kernel_rfl, ?_⟩) hHeld ?_
        · intro w' hSw
          obtain ⟨hc0, hz0⟩ := hSw
          first | (go_simp; done) | (go_simp; with_reducible rfl) | (go_simp; rw [IntKind.wrap_i64]; omega) | (go_simp; omega)
        simp only [Act.put, List.setIfInBounds_toArray, List.set_cons_zero, List.set_cons_succ]
        refine wpAnyH_take (i := 6) (v := .int .i64 mm) rfl (by kernel_rfl) (by kernel_rfl) (by kernel_rfl) (fun _ _ _ h => h) (Or.inl ⟨by kernel_rfl, ?_⟩) hHeld ?_
        · intro w' hSw
          obtain ⟨hc0, hz0⟩ := hSw
          first | (go_simp; done) | (go_simp; exact hmm) | (go_simp; rw [hmm])
        simp only [Act.put, List.setIfInBounds_toArray, List.set_cons_zero, List.set_cons_succ]
        refine wpAnyH_ready (rs := [1, 7]) (by kernel_rfl) (by simp) ?_
        refine (AllReadyH.cons rfl (fun KK hK => ?_) (AllReadyH.cons rfl (fun KK hK => ?_) AllReadyH.nil))
        · have c_ := HP.out.2.2 2 _ rfl
          have z_ := HP.out.1
          go_simp
          clear c_ z_
          refine hK.out _ _ (⟨HN.out.2.2 1 _ rfl, HN.out.1⟩) (fun hHeld => ?_)
          clear hK KK
          refine wpAnyH_ready (rs := [7]) (by kernel_rfl) (by simp) ?_
          refine (AllReadyH.cons rfl (fun KK hK => ?_) AllReadyH.nil)
          obtain ⟨q0, R0⟩ := HR.out
          go_simp
          go_wp2_with (first | (go_at_call 73; refine (off_all 0 _ R0).mono ?_; rintro e v0_2 ⟨x9, p9, rfl, R9, b9⟩))
          replace H2 : Hid (Blk v0_2 g2 [.int .i64 0, .slice none 0 0, .slice none 0 0]) := H2.out.beside b9 (by omega)
          replace H3 : Hid (Blk v0_2 g3 [.slice none 0 0]) := H3.out.beside b9 (by omega)
          replace H4 : Hid (Blk v0_2 g4 [.int .i64 0, .int .i64 0, .slice none 0 0]) := H4.out.beside b9 (by omega)
          replace HN : Hid (Blk v0_2 gn [.int .i64 P, .slice td nd kd, .slice ts ns ks]) := HN.out.beside b9 (by omega)
          replace HB : Hid (Blk v0_2 gk [.slice bs nb bc]) := HB.out.beside b9 (by omega)
          replace HP : Hid (Blk v0_2 gp [.int .i64 a, .int .i64 x, .slice t k kc]) := HP.out.beside b9 (by omega)
          replace HPL : Hid (Lst B 2 1 v0_2 (.slice t k kc) k U) := HPL.out.beside b9 (by omega)
          replace HK : Hid (KpR r w6 v0_2) := HK.out.reader b9
          replace HS : Hid (Below w.heap.size w v0_2) := HS.out.trans (b9.below (by omega) HS.out.size)
          replace HR : Hid (∃ q, Rd v0_2 r s n c q) := ⟨_, R9⟩
          clear R0 R9 b9
          refine hK.out _ _ (⟨HN.out.2.2 1 _ rfl, HN.out.1⟩) (fun hHeld => ?_)
          clear hK KK
          refine wpAnyH_ready (rs := [8]) (by kernel_rfl) (by simp) ?_
          refine (AllReadyH.cons rfl (fun KK hK => ?_) AllReadyH.nil)
          go_simp
          obtain ⟨v0_3, hv_⟩ : ∃ z, z = v0_2.alloc (.cells #[.int .i64 x9] 2) := ⟨_, rfl⟩
          rw [← hv_]
          obtain ⟨lb, hlb⟩ : ∃ z, z = v0_2.heap.size := ⟨_, rfl⟩
          have b_ : Below v0_2.heap.size v0_2 v0_3 := by rw [hv_]; exact below0 _ _
          have HLB : Hid (Blk v0_3 lb [.int .i64 x9]) := by show Blk _ _ _; rw [hv_, hlb]; exact Blk.new v0_2 #[.int .i64 x9] _
          replace H2 : Hid (Blk v0_3 g2 [.int .i64 0, .slice none 0 0, .slice none 0 0]) := H2.out.below b_
          replace H3 : Hid (Blk v0_3 g3 [.slice none 0 0]) := H3.out.below b_
          replace H4 : Hid (Blk v0_3 g4 [.int .i64 0, .int .i64 0, .slice none 0 0]) := H4.out.below b_
          replace HN : Hid (Blk v0_3 gn [.int .i64 P, .slice td nd kd, .slice ts ns ks]) := HN.out.below b_
          replace HB : Hid (Blk v0_3 gk [.slice bs nb bc]) := HB.out.below b_
          replace HP : Hid (Blk v0_3 gp [.int .i64 a, .int .i64 x, .slice t k kc]) := HP.out.below b_
          replace HPL : Hid (Lst B 2 1 v0_3 (.slice t k kc) k U) := HPL.out.below b_
          replace HK : Hid (KpR r w6 v0_3) := HK.out.below b_
          replace HR : Hid (∃ q, Rd v0_3 r s n c q) := by obtain ⟨q_, R_⟩ := HR.out; exact ⟨q_, R_.below b_⟩
          replace HS : Hid (Below w.heap.size w v0_3) := HS.out.trans (b_.mono HS.out.size)
          try rw [← hlb]
          clear hv_ hlb b_
          refine hK.out _ _ (⟨HN.out.2.2 1 _ rfl, HN.out.1⟩) (fun hHeld => ?_)
          clear hK KK
          refine wpAnyH_ready (rs := [9]) (by kernel_rfl) (by simp) ?_
          refine (AllReadyH.cons rfl (fun KK hK => ?_) AllReadyH.nil)
          obtain ⟨i0, hi, hz0, hz1, hz2⟩ := info_parts info_i64L
          have zBW : B ≤ v0_3.heap.size := by have := HP.out.1; omega
          refine wp_append_lies _ (.tmp 63) (.tmp 70) 23 (by rfl) B 2 i0 (.int .i64 0) 1 8 Try.underlying23 hi hz0 hz1 hz2 rfl (by decide) (.slice t k kc) k _ (by rfl) HPL.out ⟨lb, 0, none⟩ 1 1 [.int .i64 x9] (by rfl) rfl (cells_oneN (HLB.out.2.2 0 _ rfl)) (by intro u hu; simp at hu; subst hu; rfl) (by decide) (by unfold maxLen; omega) (by omega) zBW _ rfl ?_
          intro g9 cap9 v0_4 hown9 hgrow9 hor9 _
          have HL9 : Hid (Lst B 2 1 v0_4 (.slice (some ⟨g9, 0, none⟩) (k + 1) cap9) (k + 1) (putL U 1 k [x9])) := HPL.out.on (xs := [x9]) rfl hown9
          have NE9 : g9 ≠ gp := by
            rcases hor9 with q_ | q_
            · exact HNE.out g9 q_
            · have := HP.out.1; omega
          have b9 : Below B v0_3 v0_4 := grown_below hgrow9 zBW (own_block HPL.out)
          replace H2 : Hid (Blk v0_4 g2 [.int .i64 0, .slice none 0 0, .slice none 0 0]) := H2.out.belowB b9 (by omega)
          replace H3 : Hid (Blk v0_4 g3 [.slice none 0 0]) := H3.out.belowB b9 (by omega)
          replace H4 : Hid (Blk v0_4 g4 [.int .i64 0, .int .i64 0, .slice none 0 0]) := H4.out.belowB b9 (by omega)
          replace HN : Hid (Blk v0_4 gn [.int .i64 P, .slice td nd kd, .slice ts ns ks]) := HN.out.belowB b9 (by omega)
          replace HB : Hid (Blk v0_4 gk [.slice bs nb bc]) := HB.out.belowB b9 (by omega)
          replace HR : Hid (∃ q, Rd v0_4 r s n c q) := by obtain ⟨q_, R_⟩ := HR.out; exact ⟨q_, Rd.below' R_ (b9.mono (by omega))⟩
          replace HS : Hid (Below w.heap.size w v0_4) := HS.out.trans (b9.mono (by omega))
          replace HP : Hid (Blk v0_4 gp [.int .i64 a, .int .i64 x, .slice t k kc]) := HP.out.farJ (fun q_ h1 h2 => hgrow9.block q_ h1 (fun e => h2 e.symm)) b9.size (fun e => HNE.out gp e rfl)
          replace HK : Hid (KpR r w6 v0_4) := HK.out.belowB b9 z6B
          clear hown9 hgrow9 hor9 b9 zBW hi hz0 hz1 hz2 HLB HPL
          go_simp
          refine hK.out _ _ (⟨HN.out.2.2 1 _ rfl, HN.out.1⟩) (fun hHeld => ?_)
          clear hK KK
          refine wpAnyH_take (i := 10) (v := .pointer (some ⟨gp, 2, none⟩)) rfl (by kernel_rfl) (by kernel_rfl) (by kernel_rfl) (fun _ _ _ h => h) (Or.inl ⟨by kernel_rfl, ?_⟩) hHeld ?_
          · intro w' hSw
            obtain ⟨hc0, hz0⟩ := hSw
            first | (go_simp; done) | (go_simp; with_reducible rfl) | (go_simp; rw [IntKind.wrap_i64]; omega) | (go_simp; omega)
          simp only [Act.put, List.setIfInBounds_toArray, List.set_cons_zero, List.set_cons_succ]
          refine wpAnyH_ready (rs := [11]) (by kernel_rfl) (by simp) ?_
          refine (AllReadyH.cons rfl (fun KK hK => ?_) AllReadyH.nil)
          have u2 := HP.out.2.2 2 _ rfl
          have f2 := HP.out.2.1 2
          have uz := HP.out.1
          have hst := store_slT
          go_simp
          obtain ⟨v0_5, hv_⟩ : ∃ z, z = v0_4.setCell ⟨gp, 2, none⟩ (.slice (some ⟨g9, 0, none⟩) (k + 1) cap9) := ⟨_, rfl⟩
          rw [← hv_]
          have bs_ : Beside gp v0_4 v0_5 := by rw [hv_]; exact Beside.setCell gp _ 2 _
          have HP9 : Hid (Blk v0_5 gp [.int .i64 a, .int .i64 x, .slice (some ⟨g9, 0, none⟩) (k + 1) cap9]) := by show Blk _ _ _; rw [hv_]; exact HP.out.set 2 _
          replace HL9 : Hid (Lst B 2 1 v0_5 (.slice (some ⟨g9, 0, none⟩) (k + 1) cap9) (k + 1) (putL U 1 k [x9])) := HL9.out.same fun g hg => bs_.2.2.2.2 g (HL9.out.lt g hg).2 (by cases hg; exact NE9)
          replace H2 : Hid (Blk v0_5 g2 [.int .i64 0, .slice none 0 0, .slice none 0 0]) := H2.out.beside bs_ (by omega)
          replace H3 : Hid (Blk v0_5 g3 [.slice none 0 0]) := H3.out.beside bs_ (by omega)
          replace H4 : Hid (Blk v0_5 g4 [.int .i64 0, .int .i64 0, .slice none 0 0]) := H4.out.beside bs_ (by omega)
          replace HN : Hid (Blk v0_5 gn [.int .i64 P, .slice td nd kd, .slice ts ns ks]) := HN.out.beside bs_ (by omega)
          replace HB : Hid (Blk v0_5 gk [.slice bs nb bc]) := HB.out.beside bs_ (by omega)
          replace HR : Hid (∃ q, Rd v0_5 r s n c q) := by obtain ⟨q_, R_⟩ := HR.out; have zr_ := R_.1; exact ⟨q_, Rd.below' R_ (bs_.below (by omega) (by omega))⟩
          replace HS : Hid (Below w.heap.size w v0_5) := HS.out.trans (bs_.below (by omega) HS.out.size)
          replace HK : Hid (KpR r w6 v0_5) := HK.out.later bs_ (by omega)
          clear hv_ bs_ u2 f2 uz hst HP
          refine hK.out _ _ (⟨HN.out.2.2 1 _ rfl, HN.out.1⟩) (fun hHeld => ?_)
          clear hK KK
          refine wpAnyH_done (by kernel_rfl) ?_ _
          clear hHeld
          have HNE9 : Hid (∀ g, Value.ownBlock (.slice (some ⟨g9, 0, none⟩) (k + 1) cap9) = some g → g ≠ gp) := fun g hg => by cases hg; exact NE9
          go_wp2_with fail
          go_meet
          exact ⟨some ⟨g9, 0, none⟩, k + 1, cap9, _, by omega, HP9, HL9, HNE9, HR, HS, HN, HB, H2, H3, H4, HK⟩
        · obtain ⟨q0, R0⟩ := HR.out
          go_simp
          go_wp2_with (first | (go_at_call 73; refine (off_all 0 _ R0).mono ?_; rintro e v0_6 ⟨x9, p9, rfl, R9, b9⟩))
          replace H2 : Hid (Blk v0_6 g2 [.int .i64 0, .slice none 0 0, .slice none 0 0]) := H2.out.beside b9 (by omega)
          replace H3 : Hid (Blk v0_6 g3 [.slice none 0 0]) := H3.out.beside b9 (by omega)
          replace H4 : Hid (Blk v0_6 g4 [.int .i64 0, .int .i64 0, .slice none 0 0]) := H4.out.beside b9 (by omega)
          replace HN : Hid (Blk v0_6 gn [.int .i64 P, .slice td nd kd, .slice ts ns ks]) := HN.out.beside b9 (by omega)
          replace HB : Hid (Blk v0_6 gk [.slice bs nb bc]) := HB.out.beside b9 (by omega)
          replace HP : Hid (Blk v0_6 gp [.int .i64 a, .int .i64 x, .slice t k kc]) := HP.out.beside b9 (by omega)
          replace HPL : Hid (Lst B 2 1 v0_6 (.slice t k kc) k U) := HPL.out.beside b9 (by omega)
          replace HK : Hid (KpR r w6 v0_6) := HK.out.reader b9
          replace HS : Hid (Below w.heap.size w v0_6) := HS.out.trans (b9.below (by omega) HS.out.size)
          replace HR : Hid (∃ q, Rd v0_6 r s n c q) := ⟨_, R9⟩
          clear R0 R9 b9
          refine hK.out _ _ (⟨HN.out.2.2 1 _ rfl, HN.out.1⟩) (fun hHeld => ?_)
          clear hK KK
          refine wpAnyH_ready (rs := [1, 8]) (by kernel_rfl) (by simp) ?_
          refine (AllReadyH.cons rfl (fun KK hK => ?_) (AllReadyH.cons rfl (fun KK hK => ?_) AllReadyH.nil))
          · have c_ := HP.out.2.2 2 _ rfl
            have z_ := HP.out.1
            go_simp
            clear c_ z_
            refine hK.out _ _ (⟨HN.out.2.2 1 _ rfl, HN.out.1⟩) (fun hHeld => ?_)
            clear hK KK
            refine wpAnyH_ready (rs := [8]) (by kernel_rfl) (by simp) ?_
            refine (AllReadyH.cons rfl (fun KK hK => ?_) AllReadyH.nil)
            go_simp
            obtain ⟨v0_8, hv_⟩ : ∃ z, z = v0_6.alloc (.cells #[.int .i64 x9] 2) := ⟨_, rfl⟩
            rw [← hv_]
            obtain ⟨lb, hlb⟩ : ∃ z, z = v0_6.heap.size := ⟨_, rfl⟩
            have b_ : Below v0_6.heap.size v0_6 v0_8 := by rw [hv_]; exact below0 _ _
            have HLB : Hid (Blk v0_8 lb [.int .i64 x9]) := by show Blk _ _ _; rw [hv_, hlb]; exact Blk.new v0_6 #[.int .i64 x9] _
            replace H2 : Hid (Blk v0_8 g2 [.int .i64 0, .slice none 0 0, .slice none 0 0]) := H2.out.below b_
            replace H3 : Hid (Blk v0_8 g3 [.slice none 0 0]) := H3.out.below b_
            replace H4 : Hid (Blk v0_8 g4 [.int .i64 0, .int .i64 0, .slice none 0 0]) := H4.out.below b_
            replace HN : Hid (Blk v0_8 gn [.int .i64 P, .slice td nd kd, .slice ts ns ks]) := HN.out.below b_
            replace HB : Hid (Blk v0_8 gk [.slice bs nb bc]) := HB.out.below b_
            replace HP : Hid (Blk v0_8 gp [.int .i64 a, .int .i64 x, .slice t k kc]) := HP.out.below b_
            replace HPL : Hid (Lst B 2 1 v0_8 (.slice t k kc) k U) := HPL.out.below b_
            replace HK : Hid (KpR r w6 v0_8) := HK.out.below b_
            replace HR : Hid (∃ q, Rd v0_8 r s n c q) := by obtain ⟨q_, R_⟩ := HR.out; exact ⟨q_, R_.below b_⟩
            replace HS : Hid (Below w.heap.size w v0_8) := HS.out.trans (b_.mono HS.out.size)
            try rw [← hlb]
            clear hv_ hlb b_
            refine hK.out _ _ (⟨HN.out.2.2 1 _ rfl, HN.out.1⟩) (fun hHeld => ?_)
            clear hK KK
            refine wpAnyH_ready (rs := [9]) (by kernel_rfl) (by simp) ?_
            refine (AllReadyH.cons rfl (fun KK hK => ?_) AllReadyH.nil)
            obtain ⟨i0, hi, hz0, hz1, hz2⟩ := info_parts info_i64L
            have zBW : B ≤ v0_8.heap.size := by have := HP.out.1; omega
            refine wp_append_lies _ (.tmp 63) (.tmp 70) 23 (by rfl) B 2 i0 (.int .i64 0) 1 8 Try.underlying23 hi hz0 hz1 hz2 rfl (by decide) (.slice t k kc) k _ (by rfl) HPL.out ⟨lb, 0, none⟩ 1 1 [.int .i64 x9] (by rfl) rfl (cells_oneN (HLB.out.2.2 0 _ rfl)) (by intro u hu; simp at hu; subst hu; rfl) (by decide) (by unfold maxLen; omega) (by omega) zBW _ rfl ?_
            intro g9 cap9 v0_9 hown9 hgrow9 hor9 _
            have HL9 : Hid (Lst B 2 1 v0_9 (.slice (some ⟨g9, 0, none⟩) (k + 1) cap9) (k + 1) (putL U 1 k [x9])) := HPL.out.on (xs := [x9]) rfl hown9
            have NE9 : g9 ≠ gp := by
              rcases hor9 with q_ | q_
              · exact HNE.out g9 q_
              · have := HP.out.1; omega
            have b9 : Below B v0_8 v0_9 := grown_below hgrow9 zBW (own_block HPL.out)
            replace H2 : Hid (Blk v0_9 g2 [.int .i64 0, .slice none 0 0, .slice none 0 0]) := H2.out.belowB b9 (by omega)
            replace H3 : Hid (Blk v0_9 g3 [.slice none 0 0]) := H3.out.belowB b9 (by omega)
            replace H4 : Hid (Blk v0_9 g4 [.int .i64 0, .int .i64 0, .slice none 0 0]) := H4.out.belowB b9 (by omega)
            replace HN : Hid (Blk v0_9 gn [.int .i64 P, .slice td nd kd, .slice ts ns ks]) := HN.out.belowB b9 (by omega)
            replace HB : Hid (Blk v0_9 gk [.slice bs nb bc]) := HB.out.belowB b9 (by omega)
            replace HR : Hid (∃ q, Rd v0_9 r s n c q) := by obtain ⟨q_, R_⟩ := HR.out; exact ⟨q_, Rd.below' R_ (b9.mono (by omega))⟩
            replace HS : Hid (Below w.heap.size w v0_9) := HS.out.trans (b9.mono (by omega))
            replace HP : Hid (Blk v0_9 gp [.int .i64 a, .int .i64 x, .slice t k kc]) := HP.out.farJ (fun q_ h1 h2 => hgrow9.block q_ h1 (fun e => h2 e.symm)) b9.size (fun e => HNE.out gp e rfl)
            replace HK : Hid (KpR r w6 v0_9) := HK.out.belowB b9 z6B
            clear hown9 hgrow9 hor9 b9 zBW hi hz0 hz1 hz2 HLB HPL
            go_simp
            refine hK.out _ _ (⟨HN.out.2.2 1 _ rfl, HN.out.1⟩) (fun hHeld => ?_)
            clear hK KK
            refine wpAnyH_take (i := 10) (v := .pointer (some ⟨gp, 2, none⟩)) rfl (by kernel_rfl) (by kernel_rfl) (by kernel_rfl) (fun _ _ _ h => h) (Or.inl ⟨by kernel_rfl, ?_⟩) hHeld ?_
            · intro w' hSw
              obtain ⟨hc0, hz0⟩ := hSw
              first | (go_simp; done) | (go_simp; with_reducible rfl) | (go_simp; rw [IntKind.wrap_i64]; omega) | (go_simp; omega)
            simp only [Act.put, List.setIfInBounds_toArray, List.set_cons_zero, List.set_cons_succ]
            refine wpAnyH_ready (rs := [11]) (by kernel_rfl) (by simp) ?_
            refine (AllReadyH.cons rfl (fun KK hK => ?_) AllReadyH.nil)
            have u2 := HP.out.2.2 2 _ rfl
            have f2 := HP.out.2.1 2
            have uz := HP.out.1
            have hst := store_slT
            go_simp
            obtain ⟨v0_10, hv_⟩ : ∃ z, z = v0_9.setCell ⟨gp, 2, none⟩ (.slice (some ⟨g9, 0, none⟩) (k + 1) cap9) := ⟨_, rfl⟩
            rw [← hv_]
            have bs_ : Beside gp v0_9 v0_10 := by rw [hv_]; exact Beside.setCell gp _ 2 _
            have HP9 : Hid (Blk v0_10 gp [.int .i64 a, .int .i64 x, .slice (some ⟨g9, 0, none⟩) (k + 1) cap9]) := by show Blk _ _ _; rw [hv_]; exact HP.out.set 2 _
            replace HL9 : Hid (Lst B 2 1 v0_10 (.slice (some ⟨g9, 0, none⟩) (k + 1) cap9) (k + 1) (putL U 1 k [x9])) := HL9.out.same fun g hg => bs_.2.2.2.2 g (HL9.out.lt g hg).2 (by cases hg; exact NE9)
            replace H2 : Hid (Blk v0_10 g2 [.int .i64 0, .slice none 0 0, .slice none 0 0]) := H2.out.beside bs_ (by omega)
            replace H3 : Hid (Blk v0_10 g3 [.slice none 0 0]) := H3.out.beside bs_ (by omega)
            replace H4 : Hid (Blk v0_10 g4 [.int .i64 0, .int .i64 0, .slice none 0 0]) := H4.out.beside bs_ (by omega)
            replace HN : Hid (Blk v0_10 gn [.int .i64 P, .slice td nd kd, .slice ts ns ks]) := HN.out.beside bs_ (by omega)
            replace HB : Hid (Blk v0_10 gk [.slice bs nb bc]) := HB.out.beside bs_ (by omega)
            replace HR : Hid (∃ q, Rd v0_10 r s n c q) := by obtain ⟨q_, R_⟩ := HR.out; have zr_ := R_.1; exact ⟨q_, Rd.below' R_ (bs_.below (by omega) (by omega))⟩
            replace HS : Hid (Below w.heap.size w v0_10) := HS.out.trans (bs_.below (by omega) HS.out.size)
            replace HK : Hid (KpR r w6 v0_10) := HK.out.later bs_ (by omega)
            clear hv_ bs_ u2 f2 uz hst HP
            refine hK.out _ _ (⟨HN.out.2.2 1 _ rfl, HN.out.1⟩) (fun hHeld => ?_)
            clear hK KK
            refine wpAnyH_done (by kernel_rfl) ?_ _
            clear hHeld
            have HNE9 : Hid (∀ g, Value.ownBlock (.slice (some ⟨g9, 0, none⟩) (k + 1) cap9) = some g → g ≠ gp) := fun g hg => by cases hg; exact NE9
            go_wp2_with fail
            go_meet
            exact ⟨some ⟨g9, 0, none⟩, k + 1, cap9, _, by omega, HP9, HL9, HNE9, HR, HS, HN, HB, H2, H3, H4, HK⟩
          · go_simp
            obtain ⟨v0_11, hv_⟩ : ∃ z, z = v0_6.alloc (.cells #[.int .i64 x9] 2) := ⟨_, rfl⟩
            rw [← hv_]
            obtain ⟨lb, hlb⟩ : ∃ z, z = v0_6.heap.size := ⟨_, rfl⟩
            have b_ : Below v0_6.heap.size v0_6 v0_11 := by rw [hv_]; exact below0 _ _
            have HLB : Hid (Blk v0_11 lb [.int .i64 x9]) := by show Blk _ _ _; rw [hv_, hlb]; exact Blk.new v0_6 #[.int .i64 x9] _
            replace H2 : Hid (Blk v0_11 g2 [.int .i64 0, .slice none 0 0, .slice none 0 0]) := H2.out.below b_
            replace H3 : Hid (Blk v0_11 g3 [.slice none 0 0]) := H3.out.below b_
            replace H4 : Hid (Blk v0_11 g4 [.int .i64 0, .int .i64 0, .slice none 0 0]) := H4.out.below b_
            replace HN : Hid (Blk v0_11 gn [.int .i64 P, .slice td nd kd, .slice ts ns ks]) := HN.out.below b_
            replace HB : Hid (Blk v0_11 gk [.slice bs nb bc]) := HB.out.below b_
            replace HP : Hid (Blk v0_11 gp [.int .i64 a, .int .i64 x, .slice t k kc]) := HP.out.below b_
            replace HPL : Hid (Lst B 2 1 v0_11 (.slice t k kc) k U) := HPL.out.below b_
            replace HK : Hid (KpR r w6 v0_11) := HK.out.below b_
            replace HR : Hid (∃ q, Rd v0_11 r s n c q) := by obtain ⟨q_, R_⟩ := HR.out; exact ⟨q_, R_.below b_⟩
            replace HS : Hid (Below w.heap.size w v0_11) := HS.out.trans (b_.mono HS.out.size)
            try rw [← hlb]
            clear hv_ hlb b_
            refine hK.out _ _ (⟨HN.out.2.2 1 _ rfl, HN.out.1⟩) (fun hHeld => ?_)
            clear hK KK
            refine wpAnyH_ready (rs := [1]) (by kernel_rfl) (by simp) ?_
            refine (AllReadyH.cons rfl (fun KK hK => ?_) AllReadyH.nil)
            have c_ := HP.out.2.2 2 _ rfl
            have z_ := HP.out.1
            go_simp
            clear c_ z_
            refine hK.out _ _ (⟨HN.out.2.2 1 _ rfl, HN.out.1⟩) (fun hHeld => ?_)
            clear hK KK
            refine wpAnyH_ready (rs := [9]) (by kernel_rfl) (by simp) ?_
            refine (AllReadyH.cons rfl (fun KK hK => ?_) AllReadyH.nil)
            obtain ⟨i0, hi, hz0, hz1, hz2⟩ := info_parts info_i64L
            have zBW : B ≤ v0_11.heap.size := by have := HP.out.1; omega
            refine wp_append_lies _ (.tmp 63) (.tmp 70) 23 (by rfl) B 2 i0 (.int .i64 0) 1 8 Try.underlying23 hi hz0 hz1 hz2 rfl (by decide) (.slice t k kc) k _ (by rfl) HPL.out ⟨lb, 0, none⟩ 1 1 [.int .i64 x9] (by rfl) rfl (cells_oneN (HLB.out.2.2 0 _ rfl)) (by intro u hu; simp at hu; subst hu; rfl) (by decide) (by unfold maxLen; omega) (by omega) zBW _ rfl ?_
            intro g9 cap9 v0_13 hown9 hgrow9 hor9 _
            have HL9 : Hid (Lst B 2 1 v0_13 (.slice (some ⟨g9, 0, none⟩) (k + 1) cap9) (k + 1) (putL U 1 k [x9])) := HPL.out.on (xs := [x9]) rfl hown9
            have NE9 : g9 ≠ gp := by
              rcases hor9 with q_ | q_
              · exact HNE.out g9 q_
              · have := HP.out.1; omega
            have b9 : Below B v0_11 v0_13 := grown_below hgrow9 zBW (own_block HPL.out)
            replace H2 : Hid (Blk v0_13 g2 [.int .i64 0, .slice none 0 0, .slice none 0 0]) := H2.out.belowB b9 (by omega)
            replace H3 : Hid (Blk v0_13 g3 [.slice none 0 0]) := H3.out.belowB b9 (by omega)
            replace H4 : Hid (Blk v0_13 g4 [.int .i64 0, .int .i64 0, .slice none 0 0]) := H4.out.belowB b9 (by omega)
            replace HN : Hid (Blk v0_13 gn [.int .i64 P, .slice td nd kd, .slice ts ns ks]) := HN.out.belowB b9 (by omega)
            replace HB : Hid (Blk v0_13 gk [.slice bs nb bc]) := HB.out.belowB b9 (by omega)
            replace HR : Hid (∃ q, Rd v0_13 r s n c q) := by obtain ⟨q_, R_⟩ := HR.out; exact ⟨q_, Rd.below' R_ (b9.mono (by omega))⟩
            replace HS : Hid (Below w.heap.size w v0_13) := HS.out.trans (b9.mono (by omega))
            replace HP : Hid (Blk v0_13 gp [.int .i64 a, .int .i64 x, .slice t k kc]) := HP.out.farJ (fun q_ h1 h2 => hgrow9.block q_ h1 (fun e => h2 e.symm)) b9.size (fun e => HNE.out gp e rfl)
            replace HK : Hid (KpR r w6 v0_13) := HK.out.belowB b9 z6B
            clear hown9 hgrow9 hor9 b9 zBW hi hz0 hz1 hz2 HLB HPL
            go_simp
            refine hK.out _ _ (⟨HN.out.2.2 1 _ rfl, HN.out.1⟩) (fun hHeld => ?_)
            clear hK KK
            refine wpAnyH_take (i := 10) (v := .pointer (some ⟨gp, 2, none⟩)) rfl (by kernel_rfl) (by kernel_rfl) (by kernel_rfl) (fun _ _ _ h => h) (Or.inl ⟨by kernel_rfl, ?_⟩) hHeld ?_
            · intro w' hSw
              obtain ⟨hc0, hz0⟩ := hSw
              first | (go_simp; done) | (go_simp; with_reducible rfl) | (go_simp; rw [IntKind.wrap_i64]; omega) | (go_simp; omega)
            simp only [Act.put, List.setIfInBounds_toArray, List.set_cons_zero, List.set_cons_succ]
            refine wpAnyH_ready (rs := [11]) (by kernel_rfl) (by simp) ?_
            refine (AllReadyH.cons rfl (fun KK hK => ?_) AllReadyH.nil)
            have u2 := HP.out.2.2 2 _ rfl
            have f2 := HP.out.2.1 2
            have uz := HP.out.1
            have hst := store_slT
            go_simp
            obtain ⟨v0_14, hv_⟩ : ∃ z, z = v0_13.setCell ⟨gp, 2, none⟩ (.slice (some ⟨g9, 0, none⟩) (k + 1) cap9) := ⟨_, rfl⟩
            rw [← hv_]
            have bs_ : Beside gp v0_13 v0_14 := by rw [hv_]; exact Beside.setCell gp _ 2 _
            have HP9 : Hid (Blk v0_14 gp [.int .i64 a, .int .i64 x, .slice (some ⟨g9, 0, none⟩) (k + 1) cap9]) := by show Blk _ _ _; rw [hv_]; exact HP.out.set 2 _
            replace HL9 : Hid (Lst B 2 1 v0_14 (.slice (some ⟨g9, 0, none⟩) (k + 1) cap9) (k + 1) (putL U 1 k [x9])) := HL9.out.same fun g hg => bs_.2.2.2.2 g (HL9.out.lt g hg).2 (by cases hg; exact NE9)
            replace H2 : Hid (Blk v0_14 g2 [.int .i64 0, .slice none 0 0, .slice none 0 0]) := H2.out.beside bs_ (by omega)
            replace H3 : Hid (Blk v0_14 g3 [.slice none 0 0]) := H3.out.beside bs_ (by omega)
            replace H4 : Hid (Blk v0_14 g4 [.int .i64 0, .int .i64 0, .slice none 0 0]) := H4.out.beside bs_ (by omega)
            replace HN : Hid (Blk v0_14 gn [.int .i64 P, .slice td nd kd, .slice ts ns ks]) := HN.out.beside bs_ (by omega)
            replace HB : Hid (Blk v0_14 gk [.slice bs nb bc]) := HB.out.beside bs_ (by omega)
            replace HR : Hid (∃ q, Rd v0_14 r s n c q) := by obtain ⟨q_, R_⟩ := HR.out; have zr_ := R_.1; exact ⟨q_, Rd.below' R_ (bs_.below (by omega) (by omega))⟩
            replace HS : Hid (Below w.heap.size w v0_14) := HS.out.trans (bs_.below (by omega) HS.out.size)
            replace HK : Hid (KpR r w6 v0_14) := HK.out.later bs_ (by omega)
            clear hv_ bs_ u2 f2 uz hst HP
            refine hK.out _ _ (⟨HN.out.2.2 1 _ rfl, HN.out.1⟩) (fun hHeld => ?_)
            clear hK KK
            refine wpAnyH_done (by kernel_rfl) ?_ _
            clear hHeld
            have HNE9 : Hid (∀ g, Value.ownBlock (.slice (some ⟨g9, 0, none⟩) (k + 1) cap9) = some g → g ≠ gp) := fun g hg => by cases hg; exact NE9
            go_wp2_with fail
            go_meet
            exact ⟨some ⟨g9, 0, none⟩, k + 1, cap9, _, by omega, HP9, HL9, HNE9, HR, HS, HN, HB, H2, H3, H4, HK⟩
    clear HR HS HN HB H2 H3 H4 HK HP HPL HNE
    obtain ⟨t2, k2, kc2, U2, hk2, HP, HPL, HNE, HR, HS, HN, HB, H2, H3, H4, HK⟩ := hcut
    rename World => wb0
    obtain ⟨q0, R0⟩ := HR.out
    go_wp2_with fail
    refine (once_any 20 (by omega) (by omega) R0).mono ?_
    rintro e wc0 ⟨bo, q9, rfl, R9, b9⟩
    replace H2 : Hid (Blk wc0 g2 [.int .i64 0, .slice none 0 0, .slice none 0 0]) := H2.out.beside b9 (by omega)
    replace H3 : Hid (Blk wc0 g3 [.slice none 0 0]) := H3.out.beside b9 (by omega)
    replace H4 : Hid (Blk wc0 g4 [.int .i64 0, .int .i64 0, .slice none 0 0]) := H4.out.beside b9 (by omega)
    replace HN : Hid (Blk wc0 gn [.int .i64 P, .slice td nd kd, .slice ts ns ks]) := HN.out.beside b9 (by omega)
    replace HB : Hid (Blk wc0 gk [.slice bs nb bc]) := HB.out.beside b9 (by omega)
    replace HP : Hid (Blk wc0 gp [.int .i64 a, .int .i64 x, .slice t2 k2 kc2]) := HP.out.beside b9 (by omega)
    replace HPL : Hid (Lst B 2 1 wc0 (.slice t2 k2 kc2) k2 U2) := HPL.out.beside b9 (by omega)
    replace HK : Hid (KpR r w6 wc0) := HK.out.reader b9
    replace HS : Hid (Below w.heap.size w wc0) := HS.out.trans (b9.below (by omega) HS.out.size)
    replace HR : Hid (∃ q, Rd wc0 r s n c q) := ⟨_, R9⟩
    clear R0 R9 b9
    go_upto_if 74 with fail
    go_cut [] (fun wx => ∃ (a2 : Int), Hid (Blk wx gp [.int .i64 a2, .int .i64 x, .slice t2 k2 kc2]) ∧ Hid (Lst B 2 1 wx (.slice t2 k2 kc2) k2 U2) ∧ Hid (∃ q, Rd wx r s n c q) ∧ Hid (Below w.heap.size w wx) ∧ Hid (Blk wx gn [.int .i64 P, .slice td nd kd, .slice ts ns ks]) ∧ Hid (Blk wx gk [.slice bs nb bc]) ∧ Hid (Blk wx g2 [.int .i64 0, .slice none 0 0, .slice none 0 0]) ∧ Hid (Blk wx g3 [.slice none 0 0]) ∧ Hid (Blk wx g4 [.int .i64 0, .int .i64 0, .slice none 0 0]) ∧ Hid (KpR r w6 wx))
    case first =>
      cases bo
      case false =>
        go_wp2_with fail
        go_meet
        exact ⟨a, HP, HPL, HR, HS, HN, HB, H2, H3, H4, HK⟩
      case true =>
        obtain ⟨q0, R0⟩ := HR.out
        go_wp2_with fail
        refine (off_all 1 1000000 R0).mono ?_
        rintro e wd ⟨x9, p9, rfl, R9, b9⟩
        replace H2 : Hid (Blk wd g2 [.int .i64 0, .slice none 0 0, .slice none 0 0]) := H2.out.beside b9 (by omega)
        replace H3 : Hid (Blk wd g3 [.slice none 0 0]) := H3.out.beside b9 (by omega)
        replace H4 : Hid (Blk wd g4 [.int .i64 0, .int .i64 0, .slice none 0 0]) := H4.out.beside b9 (by omega)
        replace HN : Hid (Blk wd gn [.int .i64 P, .slice td nd kd, .slice ts ns ks]) := HN.out.beside b9 (by omega)
        replace HB : Hid (Blk wd gk [.slice bs nb bc]) := HB.out.beside b9 (by omega)
        replace HP : Hid (Blk wd gp [.int .i64 a, .int .i64 x, .slice t2 k2 kc2]) := HP.out.beside b9 (by omega)
        replace HPL : Hid (Lst B 2 1 wd (.slice t2 k2 kc2) k2 U2) := HPL.out.beside b9 (by omega)
        replace HK : Hid (KpR r w6 wd) := HK.out.reader b9
        replace HS : Hid (Below w.heap.size w wd) := HS.out.trans (b9.below (by omega) HS.out.size)
        replace HR : Hid (∃ q, Rd wd r s n c q) := ⟨_, R9⟩
        clear R0 R9 b9
        have u0 := HP.out.2.2 0 _ rfl
        have f0 := HP.out.2.1 0
        have uz := HP.out.1
        have hst := store_slT
        go_wp2_with fail
        go_meet
        obtain ⟨we, hv_⟩ : ∃ z, z = wd.setCell ⟨gp, 0, none⟩ (.int .i64 x9) := ⟨_, rfl⟩
        try rw [← hv_]
        have bs_ : Beside gp wd we := by rw [hv_]; exact Beside.setCell gp _ 0 _
        have HP9 : Hid (Blk we gp [.int .i64 x9, .int .i64 x, .slice t2 k2 kc2]) := by show Blk _ _ _; rw [hv_]; exact HP.out.set 0 _
        replace HPL : Hid (Lst B 2 1 we (.slice t2 k2 kc2) k2 U2) := HPL.out.same fun g hg => bs_.2.2.2.2 g (HPL.out.lt g hg).2 (HNE.out g hg)
        replace H2 : Hid (Blk we g2 [.int .i64 0, .slice none 0 0, .slice none 0 0]) := H2.out.beside bs_ (by omega)
        replace H3 : Hid (Blk we g3 [.slice none 0 0]) := H3.out.beside bs_ (by omega)
        replace H4 : Hid (Blk we g4 [.int .i64 0, .int .i64 0, .slice none 0 0]) := H4.out.beside bs_ (by omega)
        replace HN : Hid (Blk we gn [.int .i64 P, .slice td nd kd, .slice ts ns ks]) := HN.out.beside bs_ (by omega)
        replace HB : Hid (Blk we gk [.slice bs nb bc]) := HB.out.beside bs_ (by omega)
        replace HR : Hid (∃ q, Rd we r s n c q) := by obtain ⟨q_, R_⟩ := HR.out; have zr_ := R_.1; exact ⟨q_, Rd.below' R_ (bs_.below (by omega) (by omega))⟩
        replace HS : Hid (Below w.heap.size w we) := HS.out.trans (bs_.below (by omega) HS.out.size)
        replace HK : Hid (KpR r w6 we) := HK.out.later bs_ (by omega)
        exact ⟨x9, HP9, HPL, HR, HS, HN, HB, H2, H3, H4, HK⟩
    clear HR HS HN HB H2 H3 H4 HK HP HPL
    obtain ⟨a2, HP, HPL, HR, HS, HN, HB, H2, H3, H4, HK⟩ := hcut
    rename World => wd0
    clear HR
    go_upto_region 21 with fail
    refine wp_region_held_drew (S := fun w' => w'.cell? ⟨gn, 0, none⟩ = some (.int .i64 P) ∧ w'.cell? ⟨gn, 1, none⟩ = some (.slice td nd kd) ∧ w'.cell? ⟨gn, 2, none⟩ = some (.slice ts ns ks) ∧ w'.cell? ⟨gk, 0, none⟩ = some (.slice bs nb bc) ∧ w'.cell? ⟨gp, 0, none⟩ = some (.int .i64 a2) ∧ w'.cell? ⟨gp, 1, none⟩ = some (.int .i64 x) ∧ w'.cell? ⟨gp, 2, none⟩ = some (.slice t2 k2 kc2) ∧ gn < w'.heap.size ∧ gk < w'.heap.size ∧ gp < w'.heap.size) (by kernel_rfl) ?_ (fun hHeld => ?_)
    · exact ⟨HN.out.2.2 0 _ rfl, HN.out.2.2 1 _ rfl, HN.out.2.2 2 _ rfl, HB.out.2.2 0 _ rfl, HP.out.2.2 0 _ rfl, HP.out.2.2 1 _ rfl, HP.out.2.2 2 _ rfl, HN.out.1, HB.out.1, HP.out.1⟩
    obtain ⟨v0, hv0⟩ : ∃ z, z = wd0.drew := ⟨_, rfl⟩
    try rw [← hv0] at hHeld
    rw [← hv0]
    have bv0 : Below wd0.heap.size wd0 v0 := by rw [hv0]; exact Below.drew (Below.refl _ _)
    clear hv0
    replace H2 : Hid (Blk v0 g2 [.int .i64 0, .slice none 0 0, .slice none 0 0]) := H2.out.below bv0
    replace H3 : Hid (Blk v0 g3 [.slice none 0 0]) := H3.out.below bv0
    replace H4 : Hid (Blk v0 g4 [.int .i64 0, .int .i64 0, .slice none 0 0]) := H4.out.below bv0
    replace HN : Hid (Blk v0 gn [.int .i64 P, .slice td nd kd, .slice ts ns ks]) := HN.out.below bv0
    replace HB : Hid (Blk v0 gk [.slice bs nb bc]) := HB.out.below bv0
    replace HP : Hid (Blk v0 gp [.int .i64 a2, .int .i64 x, .slice t2 k2 kc2]) := HP.out.below bv0
    replace HPL : Hid (Lst B 2 1 v0 (.slice t2 k2 kc2) k2 U2) := HPL.out.below bv0
    replace HK : Hid (KpR r w6 v0) := HK.out.below bv0
    replace HS : Hid (Below w.heap.size w v0) := HS.out.trans (bv0.mono HS.out.size)
    clear bv0
    refine wpAnyH_take (i := 0) (v := .agg #[.int .i64 P, .slice td nd kd, .slice ts ns ks]) rfl (by kernel_rfl) (by kernel_rfl) (by kernel_rfl) (fun _ _ _ h => h) (Or.inl ⟨by kernel_rfl, ?_⟩) hHeld ?_
    · intro w' hSw
      obtain ⟨hc0, hc1, hc2, hc3, hc4, hc5, hc6, hz0, hz1, hz2⟩ := hSw
      first | (go_simp; done) | (go_simp; with_reducible rfl) | (go_simp; rw [IntKind.wrap_i64]; omega) | (go_simp; omega)
    simp only [Act.put, List.setIfInBounds_toArray, List.set_cons_zero, List.set_cons_succ]
    refine wpAnyH_take (i := 1) (v := .agg #[.slice bs nb bc]) rfl (by kernel_rfl) (by kernel_rfl) (by kernel_rfl) (fun _ _ _ h => h) (Or.inl ⟨by kernel_rfl, ?_⟩) hHeld ?_
    · intro w' hSw
      obtain ⟨hc0, hc1, hc2, hc3, hc4, hc5, hc6, hz0, hz1, hz2⟩ := hSw
      first | (go_simp; done) | (go_simp; with_reducible rfl) | (go_simp; rw [IntKind.wrap_i64]; omega) | (go_simp; omega)
    simp only [Act.put, List.setIfInBounds_toArray, List.set_cons_zero, List.set_cons_succ]
    refine wpAnyH_take (i := 2) (v := .agg #[.int .i64 a2, .int .i64 x, .slice t2 k2 kc2]) rfl (by kernel_rfl) (by kernel_rfl) (by kernel_rfl) (fun _ _ _ h => h) (Or.inl ⟨by kernel_rfl, ?_⟩) hHeld ?_
    · intro w' hSw
      obtain ⟨hc0, hc1, hc2, hc3, hc4, hc5, hc6, hz0, hz1, hz2⟩ := hSw
      first | (go_simp; done) | (go_simp; with_reducible rfl) | (go_simp; rw [IntKind.wrap_i64]; omega) | (go_simp; omega)
    simp only [Act.put, List.setIfInBounds_toArray, List.set_cons_zero, List.set_cons_succ]
    refine wpAnyH_ready (rs := [3]) (by kernel_rfl) (by simp) ?_
    refine (AllReadyH.cons rfl (fun KK hK => ?_) AllReadyH.nil)
    have u0 := H2.out.2.2 0 _ rfl
    have f0 := H2.out.2.1 0
    have u1 := H2.out.2.2 1 _ rfl
    have f1 := H2.out.2.1 1
    have u2 := H2.out.2.2 2 _ rfl
    have f2 := H2.out.2.1 2
    have uz := H2.out.1
    have hst := store_slT
    go_simp
    obtain ⟨v0_1, hv_⟩ : ∃ z, z = ((v0.setCell ⟨g2, 0, none⟩ (.int .i64 P)).setCell ⟨g2, 1, none⟩ (.slice td nd kd)).setCell ⟨g2, 2, none⟩ (.slice ts ns ks) := ⟨_, rfl⟩
    rw [← hv_]
    have bs_ : Beside g2 v0 v0_1 := by rw [hv_]; exact ((Beside.setCell g2 _ 0 _).trans (Beside.setCell g2 _ 1 _)).trans (Beside.setCell g2 _ 2 _)
    replace H2 : Hid (Blk v0_1 g2 [.int .i64 P, .slice td nd kd, .slice ts ns ks]) := by show Blk _ _ _; rw [hv_]; exact (((H2.out.set 0 _).set 1 _).set 2 _)
    replace H3 : Hid (Blk v0_1 g3 [.slice none 0 0]) := H3.out.beside bs_ (by omega)
    replace H4 : Hid (Blk v0_1 g4 [.int .i64 0, .int .i64 0, .slice none 0 0]) := H4.out.beside bs_ (by omega)
    replace HN : Hid (Blk v0_1 gn [.int .i64 P, .slice td nd kd, .slice ts ns ks]) := HN.out.beside bs_ (by omega)
    replace HB : Hid (Blk v0_1 gk [.slice bs nb bc]) := HB.out.beside bs_ (by omega)
    replace HP : Hid (Blk v0_1 gp [.int .i64 a2, .int .i64 x, .slice t2 k2 kc2]) := HP.out.beside bs_ (by omega)
    replace HPL : Hid (Lst B 2 1 v0_1 (.slice t2 k2 kc2) k2 U2) := HPL.out.beside bs_ (by omega)
    replace HS : Hid (Below w.heap.size w v0_1) := HS.out.trans (bs_.below (by omega) HS.out.size)
    replace HK : Hid (KpR r w6 v0_1) := HK.out.lower bs_ (by omega)
    clear hv_ bs_ uz hst u0 f0 u1 f1 u2 f2
    refine hK.out _ _ (⟨HN.out.2.2 0 _ rfl, HN.out.2.2 1 _ rfl, HN.out.2.2 2 _ rfl, HB.out.2.2 0 _ rfl, HP.out.2.2 0 _ rfl, HP.out.2.2 1 _ rfl, HP.out.2.2 2 _ rfl, HN.out.1, HB.out.1, HP.out.1⟩) (fun hHeld => ?_)
    clear hK KK
    refine wpAnyH_ready (rs := [4]) (by kernel_rfl) (by simp) ?_
    refine (AllReadyH.cons rfl (fun KK hK => ?_) AllReadyH.nil)
    have u0 := H3.out.2.2 0 _ rfl
    have f0 := H3.out.2.1 0
    have uz := H3.out.1
    have hst := store_slT
    go_simp
    obtain ⟨v0_2, hv_⟩ : ∃ z, z = v0_1.setCell ⟨g3, 0, none⟩ (.slice bs nb bc) := ⟨_, rfl⟩
    rw [← hv_]
    have bs_ : Beside g3 v0_1 v0_2 := by rw [hv_]; exact Beside.setCell g3 _ 0 _
    replace H3 : Hid (Blk v0_2 g3 [.slice bs nb bc]) := by show Blk _ _ _; rw [hv_]; exact (H3.out.set 0 _)
    replace H2 : Hid (Blk v0_2 g2 [.int .i64 P, .slice td nd kd, .slice ts ns ks]) := H2.out.beside bs_ (by omega)
    replace H4 : Hid (Blk v0_2 g4 [.int .i64 0, .int .i64 0, .slice none 0 0]) := H4.out.beside bs_ (by omega)
    replace HN : Hid (Blk v0_2 gn [.int .i64 P, .slice td nd kd, .slice ts ns ks]) := HN.out.beside bs_ (by omega)
    replace HB : Hid (Blk v0_2 gk [.slice bs nb bc]) := HB.out.beside bs_ (by omega)
    replace HP : Hid (Blk v0_2 gp [.int .i64 a2, .int .i64 x, .slice t2 k2 kc2]) := HP.out.beside bs_ (by omega)
    replace HPL : Hid (Lst B 2 1 v0_2 (.slice t2 k2 kc2) k2 U2) := HPL.out.beside bs_ (by omega)
    replace HS : Hid (Below w.heap.size w v0_2) := HS.out.trans (bs_.below (by omega) HS.out.size)
    replace HK : Hid (KpR r w6 v0_2) := HK.out.lower bs_ (by omega)
    clear hv_ bs_ uz hst u0 f0
    refine hK.out _ _ (⟨HN.out.2.2 0 _ rfl, HN.out.2.2 1 _ rfl, HN.out.2.2 2 _ rfl, HB.out.2.2 0 _ rfl, HP.out.2.2 0 _ rfl, HP.out.2.2 1 _ rfl, HP.out.2.2 2 _ rfl, HN.out.1, HB.out.1, HP.out.1⟩) (fun hHeld => ?_)
    clear hK KK
    refine wpAnyH_ready (rs := [5]) (by kernel_rfl) (by simp) ?_
    refine (AllReadyH.cons rfl (fun KK hK => ?_) AllReadyH.nil)
    have u0 := H4.out.2.2 0 _ rfl
    have f0 := H4.out.2.1 0
    have u1 := H4.out.2.2 1 _ rfl
    have f1 := H4.out.2.1 1
    have u2 := H4.out.2.2 2 _ rfl
    have f2 := H4.out.2.1 2
    have uz := H4.out.1
    have hst := store_slT
    go_simp
    obtain ⟨v0_3, hv_⟩ : ∃ z, z = ((v0_2.setCell ⟨g4, 0, none⟩ (.int .i64 a2)).setCell ⟨g4, 1, none⟩ (.int .i64 x)).setCell ⟨g4, 2, none⟩ (.slice t2 k2 kc2) := ⟨_, rfl⟩
    rw [← hv_]
    have bs_ : Beside g4 v0_2 v0_3 := by rw [hv_]; exact ((Beside.setCell g4 _ 0 _).trans (Beside.setCell g4 _ 1 _)).trans (Beside.setCell g4 _ 2 _)
    replace H4 : Hid (Blk v0_3 g4 [.int .i64 a2, .int .i64 x, .slice t2 k2 kc2]) := by show Blk _ _ _; rw [hv_]; exact (((H4.out.set 0 _).set 1 _).set 2 _)
    replace H2 : Hid (Blk v0_3 g2 [.int .i64 P, .slice td nd kd, .slice ts ns ks]) := H2.out.beside bs_ (by omega)
    replace H3 : Hid (Blk v0_3 g3 [.slice bs nb bc]) := H3.out.beside bs_ (by omega)
    replace HN : Hid (Blk v0_3 gn [.int .i64 P, .slice td nd kd, .slice ts ns ks]) := HN.out.beside bs_ (by omega)
    replace HB : Hid (Blk v0_3 gk [.slice bs nb bc]) := HB.out.beside bs_ (by omega)
    replace HP : Hid (Blk v0_3 gp [.int .i64 a2, .int .i64 x, .slice t2 k2 kc2]) := HP.out.beside bs_ (by omega)
    replace HPL : Hid (Lst B 2 1 v0_3 (.slice t2 k2 kc2) k2 U2) := HPL.out.beside bs_ (by omega)
    replace HS : Hid (Below w.heap.size w v0_3) := HS.out.trans (bs_.below (by omega) HS.out.size)
    replace HK : Hid (KpR r w6 v0_3) := HK.out.lower bs_ (by omega)
    clear hv_ bs_ uz hst u0 f0 u1 f1 u2 f2
    refine hK.out _ _ (⟨HN.out.2.2 0 _ rfl, HN.out.2.2 1 _ rfl, HN.out.2.2 2 _ rfl, HB.out.2.2 0 _ rfl, HP.out.2.2 0 _ rfl, HP.out.2.2 1 _ rfl, HP.out.2.2 2 _ rfl, HN.out.1, HB.out.1, HP.out.1⟩) (fun hHeld => ?_)
    clear hK KK
    refine wpAnyH_done (by kernel_rfl) ?_ _
    clear hHeld
    have u20 := H2.out.2.2 0 _ rfl
    have u21 := H2.out.2.2 1 _ rfl
    have u22 := H2.out.2.2 2 _ rfl
    have u30 := H3.out.2.2 0 _ rfl
    have u40 := H4.out.2.2 0 _ rfl
    have u41 := H4.out.2.2 1 _ rfl
    have u42 := H4.out.2.2 2 _ rfl
    have n23 : g2 ≠ g3 := by omega
    have n24 : g2 ≠ g4 := by omega
    have n34 : g3 ≠ g4 := by omega
    go_wp2
    refine bodyPost_ret (v := .tuple #[.agg #[.int .i64 P, .slice td nd kd, .slice ts ns ks], .agg #[.slice bs nb bc], .agg #[.int .i64 a2, .int .i64 x, .slice t2 k2 kc2]]) (by simp [results, Try.results37, go_sem, u20, u21, u22, u30, u40, u41, u42]) rfl ?_
    exact ⟨P, td, nd, kd, ts, ns, ks, _, _, bs, nb, bc, X, Y, K, V, a2, x, t2, k2, kc2, _, rfl, hnd, hns, by omega, (HK.out.bkf HF.out).row.2, hk2, HKb.out, (HK.out.lst HD.out).duct, (HK.out.lst HL.out).src, (HK.out.bkf HF.out).row.1, HPL.out.src, HS.out⟩
end Go.Proofs.Ytikcfpjfcpbfcaa
