/-
What is proved: impl.GiveBack, with the room of the book.
-/
import Derived.Test.YtikcfpjfcpbfcaaGbIz
import Derived.Test.YtikcfpjfcpbfcaaZcH
import Derived.Test.YtikcfpjfcpbfcaaDlIz
import Derived.Test.YtikcfpjfcpbfcaaTgIz
import Derived.Test.YtikcfpjfcpbfcaaZcG
import Derived.Test.YtikcfpjfcpbfcaaBcqz
import Derived.Deep.DeepCutAuto
namespace Go.Proofs.Ytikcfpjfcpbfcaa
set_option maxRecDepth 40000
open Go.ChangeShapes Go.WideShapes Go.ChangeAt Go.RowKit
set_option linter.unusedVariables false
set_option linter.unusedSimpArgs false

def GbPostC (w : World) (nr : Nat) (X Y : Nat → Int) (K : Nat → Nat) (V : Nat → Nat → Int) (L : List Int) (cd : Int) (e : Ending) (w' : World) : Prop := ∃ (s : Option Addr) (c : Nat) (t : Option Addr) (d : Nat) (S T : Nat → Prop), e = .returned (.tuple #[.agg #[.slice s nr c], .slice t L.length d, .int .i64 cd]) ∧ nr ≤ c ∧ (∀ k, S k → w.heap.size ≤ k ∧ k < w'.heap.size) ∧ BookR S w' s nr X Y K V ∧ (∀ k, T k → w.heap.size ≤ k ∧ k < w'.heap.size) ∧ I64R T w' t L.length (nthI L) ∧ (∀ k, S k → ¬ T k) ∧ Below w.heap.size w w'
def GbAnsC (p : Int) (n : Nat) (D : Nat → Int × Int) (m : Nat) (S : Nat → Int) (nb : Nat) (X Y : Nat → Int) (K : Nat → Nat) (V : Nat → Nat → Int) (q : Nat) (w : World) (e : Ending) (w' : World) : Prop := if bokB p n D m S nb X Y K V = true then (if q < nb then GbPostC w (nb - 1) (fun i => X (sk q i)) (fun i => Y (sk q i)) (fun i => K (sk q i)) (fun i => V (sk q i)) (freL (V q) (cntP (fun i => K (sk q i)) (fun i => V (sk q i)) (nb - 1)) (K q)) 0 e w' else GbPostC w nb X Y K V [] 7 e w') else GbPostC w 0 X Y K V [] 1 e w'
theorem GbAnsC.bad {p : Int} {n : Nat} {D : Nat → Int × Int} {m : Nat} {S : Nat → Int} {nb : Nat} {X Y : Nat → Int} {K : Nat → Nat} {V : Nat → Nat → Int} {q : Nat} {w : World} {e : Ending} {w' : World} (h : bokB p n D m S nb X Y K V = false) (g : GbPostC w 0 X Y K V [] 1 e w') : GbAnsC p n D m S nb X Y K V q w e w' := by unfold GbAnsC; rw [h]; exact g
theorem GbAnsC.none {p : Int} {n : Nat} {D : Nat → Int × Int} {m : Nat} {S : Nat → Int} {nb : Nat} {X Y : Nat → Int} {K : Nat → Nat} {V : Nat → Nat → Int} {q : Nat} {w : World} {e : Ending} {w' : World} (h : bokB p n D m S nb X Y K V = true) (hq : ¬ q < nb) (g : GbPostC w nb X Y K V [] 7 e w') : GbAnsC p n D m S nb X Y K V q w e w' := by unfold GbAnsC; rw [if_pos h, if_neg hq]; exact g
theorem GbAnsC.hit {p : Int} {n : Nat} {D : Nat → Int × Int} {m : Nat} {S : Nat → Int} {nb : Nat} {X Y : Nat → Int} {K : Nat → Nat} {V : Nat → Nat → Int} {q mo fl : Nat} {L : List Int} {w : World} {e : Ending} {w' : World} (h : bokB p n D m S nb X Y K V = true) (hq : q < nb) (hm : nb - 1 = mo) (hk : K q = fl) (hL : freL (V q) (cntP (fun i => K (sk q i)) (fun i => V (sk q i)) mo) fl = L) (g : GbPostC w mo (fun i => X (sk q i)) (fun i => Y (sk q i)) (fun i => K (sk q i)) (fun i => V (sk q i)) L 0 e w') : GbAnsC p n D m S nb X Y K V q w e w' := by unfold GbAnsC; rw [if_pos h, if_pos hq, hm, hk, hL]; exact g
set_option maxRecDepth 20000 in
set_option maxHeartbeats 8000000 in
theorem implGiveBackC_any (p : Int) (s : Option Addr) (n c : Nat) (D : Nat → Int × Int) (t : Option Addr) (m d : Nat) (S : Nat → Int) (bs : Option Addr) (nb bc : Nat) (X Y : Nat → Int) (K : Nat → Nat) (V : Nat → Nat → Int) (id : Int) (q : Nat) (w : World) (hn : (n : Int) ≤ 1048576) (hm : (m : Int) ≤ 1048576) (HD : Hid (RowDuct w s n D)) (HS : Hid (RowI w t m S)) (hb : (nb : Int) ≤ 1048576) (hc : nb ≤ bc) (hK : Hid (∀ i, i < nb → (K i : Int) ≤ 1048576)) (HB : Hid (RowPer w bs nb X Y K V)) (HQ : Hid (bokB p n D m S nb X Y K V = true → HitAt nb X id q)) :
    Calls Try.prog 25 #[.agg #[.int .i64 p, .slice s n c, .slice t m d], .agg #[.slice bs nb bc], .int .i64 id] w fun e w' => GbAnsC p n D m S nb X Y K V q w e w' := by
  go_enter Try.func25, Try.ntmps25
  go_upto_region 1 with fail
  obtain ⟨wa, hwa⟩ : ∃ z, z = w.alloc (.cells #[.int .i64 p, .slice s n c, .slice t m d] 41) := ⟨_, rfl⟩
  obtain ⟨wb, hwb⟩ : ∃ z, z = wa.alloc (.cells #[.slice bs nb bc] 36) := ⟨_, rfl⟩
  obtain ⟨wd, hwd⟩ : ∃ z, z = wb.alloc (.cells #[.slice none 0 0] 36) := ⟨_, rfl⟩
  have ba : Below w.heap.size w wa := by rw [hwa]; exact below0 _ _
  have bb : Below wa.heap.size wa wb := by rw [hwb]; exact below0 _ _
  have bd : Below wb.heap.size wb wd := by rw [hwd]; exact below0 _ _
  obtain ⟨gN, hgN⟩ : ∃ z, z = w.heap.size := ⟨_, rfl⟩
  obtain ⟨gB, hgB⟩ : ∃ z, z = wa.heap.size := ⟨_, rfl⟩
  obtain ⟨gU, hgU⟩ : ∃ z, z = wb.heap.size := ⟨_, rfl⟩
  have sa : wa.heap.size = w.heap.size + 1 := by rw [hwa]; simp
  have sb : wb.heap.size = w.heap.size + 1 + 1 := by rw [hwb]; simp; omega
  have sd : wd.heap.size = w.heap.size + 3 := by rw [hwd]; simp; omega
  have hgB1 : w.heap.size + 1 = gB := by omega
  have hgU1 : w.heap.size + 1 + 1 = gU := by omega
  have HN : Hid (Blk wd gN [.int .i64 p, .slice s n c, .slice t m d]) := by rw [hgN]; exact ((by rw [hwa]; exact Blk.new w #[.int .i64 p, .slice s n c, .slice t m d] _ : Blk wa w.heap.size [.int .i64 p, .slice s n c, .slice t m d]).below bb).below bd
  have HBk : Hid (Blk wd gB [.slice bs nb bc]) := by rw [hgB]; exact (by rw [hwb]; exact Blk.new wa #[.slice bs nb bc] _ : Blk wb wa.heap.size [.slice bs nb bc]).below bd
  have HU : Hid (Blk wd gU [.slice none 0 0]) := by rw [hgU, hwd]; exact Blk.new wb #[.slice none 0 0] _
  have HBd : Hid (Below w.heap.size w wd) := ba.trans ((bb.trans (bd.mono bb.size)).mono ba.size)
  have zz : w.heap.size ≤ gN ∧ gN < gB ∧ gB < gU ∧ gU < wd.heap.size := by omega
  try rw [← hwa]
  try rw [← hwb]
  try rw [← hwd]
  try rw [hgU1]
  try rw [hgB1]
  try rw [← hgU]
  try rw [← hgB]
  try rw [← hgN]
  clear hwa hwb hwd ba bb bd hgN hgB hgU sa sb sd hgB1 hgU1
  obtain ⟨z1, z2, z3, z4⟩ := zz
  have HDd : Hid (RowDuct wd s n D) := HD.out.below HBd.out
  have HSd : Hid (RowI wd t m S) := HS.out.below HBd.out
  have HPd : Hid (RowPer wd bs nb X Y K V) := HB.out.below HBd.out
  obtain ⟨zN, -, cN⟩ := HN.out
  have n0 := cN 0 _ rfl
  have n1 := cN 1 _ rfl
  have n2 := cN 2 _ rfl
  obtain ⟨zB, -, cB⟩ := HBk.out
  have b0 := cB 0 _ rfl
  clear cN cB
  go_wp2_with fail
  refine (implBookOk_any p s n c D t m d S bs nb bc X Y K V _ hn hm HDd HSd hb hc hK HPd).mono ?_
  rintro e w1 ⟨rfl, h1⟩
  clear n0 n1 n2 zN zB b0
  replace HN : Hid (Blk w1 gN [.int .i64 p, .slice s n c, .slice t m d]) := HN.out.below h1
  replace HBk : Hid (Blk w1 gB [.slice bs nb bc]) := HBk.out.below h1
  replace HU : Hid (Blk w1 gU [.slice none 0 0]) := HU.out.below h1
  have HP1 : Hid (RowPer w1 bs nb X Y K V) := HPd.out.below h1
  have HB1 : Hid (Below w.heap.size w w1) := HBd.out.trans (h1.mono HBd.out.size)
  have y4 : gU < w1.heap.size := Nat.lt_of_lt_of_le z4 h1.size
  clear h1 HDd HSd HPd HBd z4
  obtain ⟨zU, fU, cU⟩ := HU.out
  have u0 := cU 0 _ rfl
  have uf := fU 0
  clear fU cU
  have hst := store_slT
  obtain ⟨ok, hok⟩ : ∃ ok, bokB p n D m S nb X Y K V = ok := ⟨_, rfl⟩
  have HOK : Hid (bokB p n D m S nb X Y K V = ok) := hok
  rw [hok]
  clear hok
  cases ok
  case false =>
    have HBu : Hid (Below w.heap.size w (w1.setCell ⟨gU, 0, none⟩ (.slice none 0 0))) := HB1.out.trans ((Beside.setCell gU w1 0 _).below (by omega) HB1.out.size)
    go_wp2
    refine bodyPost_ret (v := .tuple #[.agg #[.slice none 0 0], .slice none 0 0, .int .i64 1]) (by simp [results, Try.results25, go_sem, u0]) rfl ?_
    refine GbAnsC.bad HOK.out ?_
    exact ⟨none, 0, none, 0, fun _ => False, fun _ => False, rfl, Nat.le_refl _, fun k hk => hk.elim, no_book _ _ _ _ _ _, fun k hk => hk.elim, no_ints _ _ _, fun k hk => hk.elim, HBu.out⟩
  case true =>
    replace HQ : Hid (HitAt nb X id q) := HQ.out HOK.out
    obtain ⟨n40, nb20, hin⟩ := bok_in HOK.out
    have HIN : Hid (∀ i, i < nb → (K i : Int) ≤ 40 ∧ risB (V i) (K i) = true ∧ ∀ j, j < K i → 0 ≤ V i j ∧ V i j < (n : Int)) := hin
    have HRI : Hid (∀ i j, i < j → j < nb → X i < X j) := bok_rises HOK.out
    obtain ⟨zB, -, cB⟩ := HBk.out
    have b0 := cB 0 _ rfl
    clear hin cB
    go_wp2_with fail
    refine (bookCopied_any bs nb bc X Y K V _ hb hK HP1).mono ?_
    rintro e w2 ⟨b, rfl, hb1, hpc, h2⟩
    have HB2 : Hid (Below w.heap.size w w2) := HB1.out.trans (h2.mono HB1.out.size)
    have HPC : Hid (PcK b w2 nb nb X Y K V) := hpc
    have zb : gU < b := by omega
    replace HN : Hid (Blk w2 gN [.int .i64 p, .slice s n c, .slice t m d]) := HN.out.below h2
    replace HBk : Hid (Blk w2 gB [.slice bs nb bc]) := HBk.out.below h2
    replace HU : Hid (Blk w2 gU [.slice none 0 0]) := HU.out.below h2
    have HP2 : Hid (RowPer w2 bs nb X Y K V) := HP1.out.below h2
    have zb2 : b < w2.heap.size := hpc.1
    clear h2 hpc hb1 zB b0 HP1 u0 uf zU
    go_upto_region 4 with fail
    obtain ⟨w3, hw3⟩ : ∃ z, z = w2.alloc (.cells #[.slice (some ⟨b, 0, none⟩) nb nb] 36) := ⟨_, rfl⟩
    try rw [← hw3]
    have b3 : Below w2.heap.size w2 w3 := by rw [hw3]; exact below0 _ _
    obtain ⟨gX, hgX⟩ : ∃ z, z = w2.heap.size := ⟨_, rfl⟩
    have HXb : Hid (Blk w3 gX [.slice (some ⟨b, 0, none⟩) nb nb]) := by rw [hw3, hgX]; exact Blk.new w2 #[.slice (some ⟨b, 0, none⟩) nb nb] _
    have HIX : Hid (∀ (i : Nat) (a : Addr) (k' c : Nat), i < nb → w3.cell? ⟨b, i * 3 + 2, none⟩ = some (.slice (some a) k' c) → 0 < k' → a.block < gX) := fun i a k' c hi hc hk => by
      rw [b3.cell (p := ⟨b, i * 3 + 2, none⟩) zb2] at hc
      rw [hgX]
      exact HPC.out.inner i a k' c hi hc hk
    replace HN : Hid (Blk w3 gN [.int .i64 p, .slice s n c, .slice t m d]) := HN.out.below b3
    replace HBk : Hid (Blk w3 gB [.slice bs nb bc]) := HBk.out.below b3
    replace HU : Hid (Blk w3 gU [.slice none 0 0]) := HU.out.below b3
    replace HPC : Hid (PcK b w3 nb nb X Y K V) := HPC.out.below b3
    have HP3 : Hid (RowPer w3 bs nb X Y K V) := HP2.out.below b3
    have HB3 : Hid (Below w.heap.size w w3) := HB2.out.trans (b3.mono HB2.out.size)
    have zx : b < gX := by omega
    have zwb : w.heap.size ≤ b := by omega
    try rw [← hgX]
    clear hw3 b3 hgX HP2 HB2 HB1 y4 zb2
    obtain ⟨zB, -, cB⟩ := HBk.out
    have b0 := cB 0 _ rfl
    clear cB
    have nb20i : (nb : Int) ≤ 20 := by omega
    go_wp2_with fail
    refine (ids_any bs nb bc X Y K V _ hb HP3).mono ?_
    rintro e w4 ⟨gi, rfl, hri, h4⟩
    have HRi : Hid (RowI w4 (some ⟨gi, 0, none⟩) nb X) := hri
    replace HN : Hid (Blk w4 gN [.int .i64 p, .slice s n c, .slice t m d]) := HN.out.below h4
    replace HBk : Hid (Blk w4 gB [.slice bs nb bc]) := HBk.out.below h4
    replace HU : Hid (Blk w4 gU [.slice none 0 0]) := HU.out.below h4
    replace HXb : Hid (Blk w4 gX [.slice (some ⟨b, 0, none⟩) nb nb]) := HXb.out.below h4
    replace HIX : Hid (∀ (i : Nat) (a : Addr) (k' c : Nat), i < nb → w4.cell? ⟨b, i * 3 + 2, none⟩ = some (.slice (some a) k' c) → 0 < k' → a.block < gX) := fun i a k' c hi hc hk => HIX.out i a k' c hi ((h4.cell (p := ⟨b, i * 3 + 2, none⟩) HPC.out.1).symm.trans hc) hk
    replace HPC : Hid (PcK b w4 nb nb X Y K V) := HPC.out.below h4
    have HP4 : Hid (RowPer w4 bs nb X Y K V) := HP3.out.below h4
    have HB4 : Hid (Below w.heap.size w w4) := HB3.out.trans (h4.mono HB3.out.size)
    clear h4 hri HP3 HB3 b0 zB
    go_wp2_with fail
    refine (binSearch_any (some ⟨gi, 0, none⟩) nb nb X id _ (by omega) HRI HRi).mono ?_
    rintro e w4' ⟨⟨k, f, rfl, hk, hlo, hhi, hf⟩, rfl⟩
    rename World => w4
    clear HRi
    by_cases hq : q < nb
    case neg =>
      have hqe : q = nb := by have := HQ.out.1; omega
      have hf0 : f = false := hit_no (by rw [← hqe]; exact hqe ▸ HQ.out) hf
      clear hf hlo hhi
      subst hf0
      clear hqe
      have HPK : Hid (PerR (fun k => w.heap.size ≤ k ∧ k < w4.heap.size) w4 (some ⟨b, 0, none⟩) nb X Y K V) := HPC.out.perK zwb
      obtain ⟨zU, fU, cU⟩ := HU.out
      have u0 := cU 0 _ rfl
      have uf := fU 0
      have x0 := HXb.out.2.2 0 _ rfl
      have xz := HXb.out.1
      have bsU : Beside gU w4 (w4.setCell ⟨gU, 0, none⟩ (.slice (some ⟨b, 0, none⟩) nb nb)) := Beside.setCell gU _ 0 _
      have HP6 : Hid (PcK b (w4.setCell ⟨gU, 0, none⟩ (.slice (some ⟨b, 0, none⟩) nb nb)) nb nb X Y K V) := HPC.out.beside bsU zb
      have HW6 : Hid (Below w.heap.size w (w4.setCell ⟨gU, 0, none⟩ (.slice (some ⟨b, 0, none⟩) nb nb))) := HB4.out.trans (bsU.below (by omega) HB4.out.size)
      clear bsU cU fU
      go_wp2
      refine bodyPost_ret (v := .tuple #[.agg #[.slice (some ⟨b, 0, none⟩) nb nb], .slice none 0 0, .int .i64 7]) (by simp [results, Try.results25, go_sem, u0]) rfl ?_
      refine GbAnsC.none HOK.out hq ?_
      exact ⟨_, nb, none, 0, _, fun _ => False, rfl, Nat.le_refl _, fun k hk => hk, HP6.out.perK zwb, fun k hk => hk.elim, no_ints _ _ _, fun k _ h => h, HW6.out⟩
    case pos =>
      obtain ⟨hf1, hkq⟩ := hit_yes HQ.out hk hlo hhi hf hq HRI.out
      clear hf hlo hhi hk
      subst hf1
      subst hkq
      obtain ⟨r, hr⟩ : ∃ r, r = k + 1 := ⟨_, rfl⟩
      have wr1 : IntKind.i64.wrap ((k : Int) + 1) = (r : Int) := by rw [IntKind.wrap_i64]; omega
      have kr : (k : Int) + 1 = (r : Int) := by omega
      have x0 := HXb.out.2.2 0 _ rfl
      have xf := HXb.out.2.1 0
      have xz := HXb.out.1
      have HRR : Hid (r = k + 1) := hr
      clear hr
      go_wp2_with fail
      try rw [kr]
      refine (delete_any b nb k r X Y K V _ (by omega) hq HRR.out HPC).mono ?_
      rintro e w5 ⟨⟨m1, rfl, hm1⟩, ⟨hpc, hce⟩, h5⟩
      have HM : Hid (nb - 1 = m1) := hm1.symm
      have m20 : m1 ≤ 20 := by omega
      have mnb : m1 ≤ nb := by omega
      clear x0 xf xz kr wr1
      replace HN : Hid (Blk w5 gN [.int .i64 p, .slice s n c, .slice t m d]) := HN.out.beside h5 (by omega)
      replace HBk : Hid (Blk w5 gB [.slice bs nb bc]) := HBk.out.beside h5 (by omega)
      replace HU : Hid (Blk w5 gU [.slice none 0 0]) := HU.out.beside h5 (by omega)
      replace HXb : Hid (Blk w5 gX [.slice (some ⟨b, 0, none⟩) nb nb]) := HXb.out.beside h5 (by omega)
      have HB5 : Hid (Below w.heap.size w w5) := HB4.out.trans (h5.below zwb HB4.out.size)
      have HNX : Hid (∀ (i : Nat) (a : Addr) (k' c : Nat), i < m1 → w5.cell? ⟨b, i * 3 + 2, none⟩ = some (.slice (some a) k' c) → 0 < k' → a.block ≠ gX) := fun i a k' c hi hc hk => by
        have hs : sk k i < nb := by unfold sk; split <;> omega
        have t_ := HIX.out (sk k i) a k' c hs ((hce i (by omega)).symm.trans hc) hk
        omega
      have HPC5 : Hid (PcK b w5 nb m1 (fun i => X (sk k i)) (fun i => Y (sk k i)) (fun i => K (sk k i)) (fun i => V (sk k i))) := by show PcK _ _ _ _ _ _ _ _; rw [hm1]; exact hpc
      have x0 := HXb.out.2.2 0 _ rfl
      have xf := HXb.out.2.1 0
      have xz := HXb.out.1
      have hst := store_slT
      clear hce hpc h5 hm1 HPC HIX HB4 HP4
      go_upto_region 8 with fail
      obtain ⟨w6, hw6⟩ : ∃ z, z = w5.setCell ⟨gX, 0, none⟩ (.slice (some ⟨b, 0, none⟩) m1 nb) := ⟨_, rfl⟩
      try rw [← hw6]
      have bs6 : Beside gX w5 w6 := by rw [hw6]; exact Beside.setCell gX _ 0 _
      have HX6 : Hid (Blk w6 gX [.slice (some ⟨b, 0, none⟩) m1 nb]) := by rw [hw6]; exact HXb.out.set 0 _
      have HPC6 : Hid (PcK b w6 nb m1 (fun i => X (sk k i)) (fun i => Y (sk k i)) (fun i => K (sk k i)) (fun i => V (sk k i))) := HPC5.out.besideH bs6 (by omega) HNX.out
      replace HN : Hid (Blk w6 gN [.int .i64 p, .slice s n c, .slice t m d]) := HN.out.beside bs6 (by omega)
      replace HBk : Hid (Blk w6 gB [.slice bs nb bc]) := HBk.out.beside bs6 (by omega)
      replace HU : Hid (Blk w6 gU [.slice none 0 0]) := HU.out.beside bs6 (by omega)
      have HB6 : Hid (Below w.heap.size w w6) := HB5.out.trans (bs6.below (by omega) HB5.out.size)
      clear hw6 bs6 x0 xf xz hst HXb HPC5 HNX HB5
      obtain ⟨g, o, a, e, rfl, hg, c0, c1, c2, ha⟩ := HB.out k hq
      have hgw : g < w.heap.size := hg
      obtain ⟨kq, hkq⟩ : ∃ kq, K k = kq := ⟨_, rfl⟩
      have HKQ : Hid (K k = kq) := hkq
      rw [hkq] at c2
      have HRA : Hid (RowI w6 a kq (V k)) := by rw [hkq] at ha; exact ha.below HB6.out
      have kq40 : (kq : Int) ≤ 40 := by rw [← hkq]; exact (HIN.out k hq).1
      have HVQ : Hid (∀ j, j < kq → 0 ≤ V k j ∧ V k j < (n : Int)) := by have z_ := (HIN.out k hq).2.2; rw [hkq] at z_; exact z_
      have HOS : Hid (bokB p n D m S m1 (fun i => X (sk k i)) (fun i => Y (sk k i)) (fun i => K (sk k i)) (fun i => V (sk k i)) = true) := by have z_ := bok_sk (q := k) HOK.out; rw [HM.out] at z_; exact z_
      have HKS : Hid (∀ i, i < m1 → ((fun i => K (sk k i)) i : Int) ≤ 1048576) := fun i hi => by
        have hs : sk k i < nb := by have := HM.out; unfold sk; split <;> omega
        have := (HIN.out (sk k i) hs).1
        show (K (sk k i) : Int) ≤ 1048576
        omega
      have HAC : Hid (GbC w6 gX gB gN g (o + k * 3 + 2) (.slice (some ⟨b, 0, none⟩) m1 nb) (.slice (some ⟨g, o, none⟩) nb bc) (.int .i64 p) (.slice s n c) (.slice t m d) (.slice a kq e)) := ⟨HX6.out.2.2 0 _ rfl, HX6.out.1, HBk.out.2.2 0 _ rfl, HBk.out.1, HN.out.2.2 0 _ rfl, HN.out.2.2 1 _ rfl, HN.out.2.2 2 _ rfl, HN.out.1, (HB6.out.cell (p := ⟨g, o + k * 3 + 2, none⟩) hg).trans c2, Nat.lt_of_lt_of_le hg HB6.out.size⟩
      have kni : (k : Int) < (nb : Int) := by omega
      have n1000 : (n : Int) ≤ 1000 := by omega
      clear c0 c1 c2 ha hkq hg HX6 HN HBk
      refine wp_region_held_drew (S := fun w' => GbC w' gX gB gN g (o + k * 3 + 2) (.slice (some ⟨b, 0, none⟩) m1 nb) (.slice (some ⟨g, o, none⟩) nb bc) (.int .i64 p) (.slice s n c) (.slice t m d) (.slice a kq e)) (by kernel_rfl) ?_ (fun hHeld => ?_)
      · exact HAC.out
      obtain ⟨v0, hv0⟩ : ∃ z, z = w6.drew := ⟨_, rfl⟩
      try rw [← hv0] at hHeld
      rw [← hv0]
      have bv0 : Below w6.heap.size w6 v0 := by rw [hv0]; exact Below.drew (Below.refl _ _)
      clear hv0
      have HAC0 : Hid (GbC v0 gX gB gN g (o + k * 3 + 2) (.slice (some ⟨b, 0, none⟩) m1 nb) (.slice (some ⟨g, o, none⟩) nb bc) (.int .i64 p) (.slice s n c) (.slice t m d) (.slice a kq e)) := HAC.out.below bv0
      have HB0 : Hid (Below w.heap.size w v0) := HB6.out.trans (bv0.mono HB6.out.size)
      have HU0 : Hid (Blk v0 gU [.slice none 0 0]) := HU.out.below bv0
      have HPC0 : Hid (PcK b v0 nb m1 (fun i => X (sk k i)) (fun i => Y (sk k i)) (fun i => K (sk k i)) (fun i => V (sk k i))) := HPC6.out.below bv0
      have HRA0 : Hid (RowI v0 a kq (V k)) := HRA.out.below bv0
      have HRP0 : Hid (RowPer v0 (some ⟨b, 0, none⟩) m1 (fun i => X (sk k i)) (fun i => Y (sk k i)) (fun i => K (sk k i)) (fun i => V (sk k i))) := (HPC0.out.perK (Nat.le_refl b)).row
      clear bv0 HAC HB6 HU HPC6 HRA
      refine wpAnyH_take (i := 0) (v := .agg #[.slice (some ⟨b, 0, none⟩) m1 nb]) rfl (by kernel_rfl) (by kernel_rfl) (by kernel_rfl) (fun _ _ _ h => h) (Or.inl ⟨by kernel_rfl, ?_⟩) hHeld ?_
      · intro w' hSw
        obtain ⟨hx0, hxz, hb0, hbz, hn0, hn1, hn2, hnz, hc0, hcz⟩ := hSw
        first | (go_simp; done) | (go_simp; with_reducible rfl) | (go_simp; rw [IntKind.wrap_i64]; omega) | (go_simp; omega)
      simp only [Act.put, List.setIfInBounds_toArray, List.set_cons_zero, List.set_cons_succ]
      refine wpAnyH_take (i := 1) (v := .pointer (some ⟨gB, 0, none⟩)) rfl (by kernel_rfl) (by kernel_rfl) (by kernel_rfl) (fun _ _ _ h => h) (Or.inl ⟨by kernel_rfl, ?_⟩) hHeld ?_
      · intro w' hSw
        obtain ⟨hx0, hxz, hb0, hbz, hn0, hn1, hn2, hnz, hc0, hcz⟩ := hSw
        first | (go_simp; done) | (go_simp; with_reducible rfl) | (go_simp; rw [IntKind.wrap_i64]; omega) | (go_simp; omega)
      simp only [Act.put, List.setIfInBounds_toArray, List.set_cons_zero, List.set_cons_succ]
      refine wpAnyH_take (i := 2) (v := .slice (some ⟨g, o, none⟩) nb bc) rfl (by kernel_rfl) (by kernel_rfl) (by kernel_rfl) (fun _ _ _ h => h) (Or.inl ⟨by kernel_rfl, ?_⟩) hHeld ?_
      · intro w' hSw
        obtain ⟨hx0, hxz, hb0, hbz, hn0, hn1, hn2, hnz, hc0, hcz⟩ := hSw
        first | (go_simp; done) | (go_simp; with_reducible rfl) | (go_simp; rw [IntKind.wrap_i64]; omega) | (go_simp; omega)
      simp only [Act.put, List.setIfInBounds_toArray, List.set_cons_zero, List.set_cons_succ]
      refine wpAnyH_take (i := 3) (v := .int .i64 (k : Int)) rfl (by kernel_rfl) (by kernel_rfl) (by kernel_rfl) (fun _ _ _ h => h) (Or.inl ⟨by kernel_rfl, ?_⟩) hHeld ?_
      · intro w' hSw
        obtain ⟨hx0, hxz, hb0, hbz, hn0, hn1, hn2, hnz, hc0, hcz⟩ := hSw
        first | (go_simp; done) | (go_simp; with_reducible rfl) | (go_simp; rw [IntKind.wrap_i64]; omega) | (go_simp; omega)
      simp only [Act.put, List.setIfInBounds_toArray, List.set_cons_zero, List.set_cons_succ]
      refine wpAnyH_take (i := 4) (v := .pointer (some ⟨g, o + k * 3, none⟩)) rfl (by kernel_rfl) (by kernel_rfl) (by kernel_rfl) (fun _ _ _ h => h) (Or.inl ⟨by kernel_rfl, ?_⟩) hHeld ?_
      · intro w' hSw
        obtain ⟨hx0, hxz, hb0, hbz, hn0, hn1, hn2, hnz, hc0, hcz⟩ := hSw
        first | (go_simp; done) | (go_simp; with_reducible rfl) | (go_simp; rw [IntKind.wrap_i64]; omega) | (go_simp; omega)
      simp only [Act.put, List.setIfInBounds_toArray, List.set_cons_zero, List.set_cons_succ]
      refine wpAnyH_take (i := 5) (v := .pointer (some ⟨g, o + k * 3 + 2, none⟩)) rfl (by kernel_rfl) (by kernel_rfl) (by kernel_rfl) (fun _ _ _ h => h) (Or.inl ⟨by kernel_rfl, ?_⟩) hHeld ?_
      · intro w' hSw
        obtain ⟨hx0, hxz, hb0, hbz, hn0, hn1, hn2, hnz, hc0, hcz⟩ := hSw
        first | (go_simp; done) | (go_simp; with_reducible rfl) | (go_simp; rw [IntKind.wrap_i64]; omega) | (go_simp; omega)
      simp only [Act.put, List.setIfInBounds_toArray, List.set_cons_zero, List.set_cons_succ]
      refine wpAnyH_take (i := 6) (v := .slice a kq e) rfl (by kernel_rfl) (by kernel_rfl) (by kernel_rfl) (fun _ _ _ h => h) (Or.inl ⟨by kernel_rfl, ?_⟩) hHeld ?_
      · intro w' hSw
        obtain ⟨hx0, hxz, hb0, hbz, hn0, hn1, hn2, hnz, hc0, hcz⟩ := hSw
        first | (go_simp; done) | (go_simp; with_reducible rfl) | (go_simp; rw [IntKind.wrap_i64]; omega) | (go_simp; omega)
      simp only [Act.put, List.setIfInBounds_toArray, List.set_cons_zero, List.set_cons_succ]
      refine wpAnyH_take (i := 7) (v := .agg #[.slice (some ⟨b, 0, none⟩) m1 nb]) rfl (by kernel_rfl) (by kernel_rfl) (by kernel_rfl) (fun _ _ _ h => h) (Or.inl ⟨by kernel_rfl, ?_⟩) hHeld ?_
      · intro w' hSw
        obtain ⟨hx0, hxz, hb0, hbz, hn0, hn1, hn2, hnz, hc0, hcz⟩ := hSw
        first | (go_simp; done) | (go_simp; with_reducible rfl) | (go_simp; rw [IntKind.wrap_i64]; omega) | (go_simp; omega)
      simp only [Act.put, List.setIfInBounds_toArray, List.set_cons_zero, List.set_cons_succ]
      refine wpAnyH_take (i := 8) (v := .agg #[.int .i64 p, .slice s n c, .slice t m d]) rfl (by kernel_rfl) (by kernel_rfl) (by kernel_rfl) (fun _ _ _ h => h) (Or.inl ⟨by kernel_rfl, ?_⟩) hHeld ?_
      · intro w' hSw
        obtain ⟨hx0, hxz, hb0, hbz, hn0, hn1, hn2, hnz, hc0, hcz⟩ := hSw
        first | (go_simp; done) | (go_simp; with_reducible rfl) | (go_simp; rw [IntKind.wrap_i64]; omega) | (go_simp; omega)
      simp only [Act.put, List.setIfInBounds_toArray, List.set_cons_zero, List.set_cons_succ]
      refine wpAnyH_ready (rs := [9]) (by kernel_rfl) (by simp) ?_
      refine (AllReadyH.cons rfl (fun KK hK => ?_) AllReadyH.nil)
      go_simp
      go_wp2_with (first | (go_at_call 65; refine (tags_any (some ⟨b, 0, none⟩) m1 nb (fun i => X (sk k i)) (fun i => Y (sk k i)) (fun i => K (sk k i)) (fun i => V (sk k i)) p s n c D t m d S _ HOS HKS HRP0).mono ?_; rintro e v0_1 ⟨gt, rfl, O_, zt_, b_⟩))
      have HT1 : Hid (RowI v0_1 (some ⟨gt, 0, none⟩) n (cntP (fun i => K (sk k i)) (fun i => V (sk k i)) m1)) := O_.row
      have HAC1 : Hid (GbC v0_1 gX gB gN g (o + k * 3 + 2) (.slice (some ⟨b, 0, none⟩) m1 nb) (.slice (some ⟨g, o, none⟩) nb bc) (.int .i64 p) (.slice s n c) (.slice t m d) (.slice a kq e)) := HAC0.out.below b_
      have HB1 : Hid (Below w.heap.size w v0_1) := HB0.out.trans (b_.mono HB0.out.size)
      have HU1 : Hid (Blk v0_1 gU [.slice none 0 0]) := HU0.out.below b_
      have HPC1 : Hid (PcK b v0_1 nb m1 (fun i => X (sk k i)) (fun i => Y (sk k i)) (fun i => K (sk k i)) (fun i => V (sk k i))) := HPC0.out.below b_
      have HRA1 : Hid (RowI v0_1 a kq (V k)) := HRA0.out.below b_
      clear O_ zt_ b_ HAC0 HB0 HU0 HPC0 HRA0 HRP0
      refine hK.out _ _ (HAC1.out) (fun hHeld => ?_)
      clear hK KK
      refine wpAnyH_ready (rs := [10]) (by kernel_rfl) (by simp) ?_
      refine (AllReadyH.cons rfl (fun KK hK => ?_) AllReadyH.nil)
      go_simp
      go_wp2_with (first | (go_at_call 64; refine (untagged_any a (some ⟨gt, 0, none⟩) kq e n n (V k) (cntP (fun i => K (sk k i)) (fun i => V (sk k i)) m1) _ (by omega) n1000 HVQ HRA1 HT1).mono ?_; rintro e v0_2 ⟨vL, rfl, O_, b_⟩))
      obtain ⟨Lj, hLj⟩ : ∃ L, freL (V k) (cntP (fun i => K (sk k i)) (fun i => V (sk k i)) m1) kq = L := ⟨_, rfl⟩
      rw [hLj] at O_
      obtain ⟨sL, cL, eL, oL⟩ := O_.own
      subst eL
      have HLJ : Hid (freL (V k) (cntP (fun i => K (sk k i)) (fun i => V (sk k i)) m1) kq = Lj) := hLj
      have HAC2 : Hid (GbC v0_2 gX gB gN g (o + k * 3 + 2) (.slice (some ⟨b, 0, none⟩) m1 nb) (.slice (some ⟨g, o, none⟩) nb bc) (.int .i64 p) (.slice s n c) (.slice t m d) (.slice a kq e)) := HAC1.out.below b_
      have HB2 : Hid (Below w.heap.size w v0_2) := HB1.out.trans (b_.mono HB1.out.size)
      have HU2 : Hid (Blk v0_2 gU [.slice none 0 0]) := HU1.out.below b_
      have HPK2 : Hid (PerR (fun k => b ≤ k ∧ k < v0_1.heap.size) v0_2 (some ⟨b, 0, none⟩) m1 (fun i => X (sk k i)) (fun i => Y (sk k i)) (fun i => K (sk k i)) (fun i => V (sk k i))) := (HPC1.out.perK (Nat.le_refl b)).below b_
      have HL2 : Hid (I64R (fun k => v0_1.heap.size ≤ k ∧ k < v0_2.heap.size) v0_2 sL Lj.length (nthI Lj)) := I64R.of oL
      have q1 : w.heap.size ≤ v0_1.heap.size := HB1.out.size
      have q2 : v0_1.heap.size ≤ v0_2.heap.size := b_.size
      have q3 : gU < v0_1.heap.size := HU1.out.1
      have HSZ : Hid (v0_2.heap.size = v0_2.heap.size) := rfl
      clear O_ oL b_ hLj HAC1 HB1 HU1 HPC1 HRA1 HT1
      refine hK.out _ _ (HAC2.out) (fun hHeld => ?_)
      clear hK KK
      refine wpAnyH_ready (rs := [11]) (by kernel_rfl) (by simp) ?_
      refine (AllReadyH.cons rfl (fun KK hK => ?_) AllReadyH.nil)
      have hl_ := HU2.out.2.2 0 _ rfl
      have hf_ := HU2.out.2.1 0
      have hg_ := HU2.out.1
      have hst := store_slT
      go_simp
      obtain ⟨v0_3, hv_⟩ : ∃ z, z = v0_2.setCell ⟨gU, 0, none⟩ (.slice (some ⟨b, 0, none⟩) m1 nb) := ⟨_, rfl⟩
      rw [← hv_]
      have bs_ : Beside gU v0_2 v0_3 := by rw [hv_]; exact Beside.setCell gU _ _ _
      have HU3 : Hid (Blk v0_3 gU [.slice (some ⟨b, 0, none⟩) m1 nb]) := by rw [hv_]; exact HU2.out.set 0 _
      have HPK3 := HPK2.out.keep (w' := v0_3) bs_.2.2.2.1 (fun k hk hl => bs_.2.2.2.2 k hl (fun z => Nat.lt_irrefl _ (Nat.lt_of_lt_of_le (z ▸ zb) hk.1)))
      have HL3 := HL2.out.keep (w' := v0_3) bs_.2.2.2.1 (fun k hk hl => bs_.2.2.2.2 k hl (fun z => Nat.lt_irrefl _ (Nat.lt_of_lt_of_le (z ▸ q3) hk.1)))
      have HAC3 : Hid (GbC v0_3 gX gB gN g (o + k * 3 + 2) (.slice (some ⟨b, 0, none⟩) m1 nb) (.slice (some ⟨g, o, none⟩) nb bc) (.int .i64 p) (.slice s n c) (.slice t m d) (.slice a kq e)) := HAC2.out.beside bs_ (by omega) (by omega) (by omega) (by omega)
      have HB3 : Hid (Below w.heap.size w v0_3) := HB2.out.trans (bs_.below (by omega) HB2.out.size)
      have q4 : v0_2.heap.size ≤ v0_3.heap.size := bs_.2.2.2.1
      clear hv_ bs_ hl_ hf_ hg_ hst HU2 HAC2 HB2
      refine hK.out _ _ (HAC3.out) (fun hHeld => ?_)
      clear hK KK
      refine wpAnyH_take (i := 12) (v := .slice sL Lj.length cL) rfl (by kernel_rfl) (by kernel_rfl) (by kernel_rfl) (fun _ _ _ h => h) (Or.inl ⟨by kernel_rfl, ?_⟩) hHeld ?_
      · intro w' hSw
        obtain ⟨hx0, hxz, hb0, hbz, hn0, hn1, hn2, hnz, hc0, hcz⟩ := hSw
        first | (go_simp; done) | (go_simp; with_reducible rfl) | (go_simp; rw [IntKind.wrap_i64]; omega) | (go_simp; omega)
      simp only [Act.put, List.setIfInBounds_toArray, List.set_cons_zero, List.set_cons_succ]
      refine wpAnyH_ready (rs := [13]) (by kernel_rfl) (by simp) ?_
      refine AllReadyH.cons rfl (fun KK hK => ?_) AllReadyH.nil
      go_simp
      refine hK.out _ _ hHeld (fun hHeld => ?_)
      clear hK KK
      refine wpAnyH_done (by kernel_rfl) ?_ _
      clear hHeld
      have u0 := HU3.out.2.2 0 _ rfl
      have uz := HU3.out.1
      go_wp2
      refine bodyPost_ret (v := .tuple #[.agg #[.slice (some ⟨b, 0, none⟩) m1 nb], .slice sL Lj.length cL, .int .i64 0]) (by simp [results, Try.results25, go_sem, u0]) rfl ?_
      refine GbAnsC.hit HOK.out hq HM.out HKQ.out HLJ.out ?_
      exact ⟨_, nb, sL, cL, _, _, rfl, (by have := HM.out; omega), fun k hk => ⟨Nat.le_trans zwb hk.1, Nat.lt_of_lt_of_le hk.2 (Nat.le_trans q2 q4)⟩, HPK3, fun k hk => ⟨Nat.le_trans q1 hk.1, Nat.lt_of_lt_of_le hk.2 q4⟩, HL3, fun k h1 h2 => Nat.lt_irrefl _ (Nat.lt_of_lt_of_le h1.2 h2.1), HB3.out⟩
end Go.Proofs.Ytikcfpjfcpbfcaa
