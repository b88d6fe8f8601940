/-
What is proved: impl.Grant.
-/
import Derived.Test.YtikcfpjfcpbfcaaZcH
import Derived.Test.YtikcfpjfcpbfcaaZcG
import Derived.Test.YtikcfpjfcpbfcaaBcqz
import Derived.Deep.DeepCutAuto
import Derived.Deep.RegionHeldLaw
namespace Go.Proofs.Ytikcfpjfcpbfcaa
set_option maxRecDepth 40000
open Go.ChangeShapes Go.WideShapes Go.ChangeAt Go.RowKit
set_option linter.unusedVariables false
set_option linter.unusedSimpArgs false

/-- What the regions read. -/
def GrC (w : World) (gN gB gP : Nat) (p : Int) (s : Option Addr) (n c : Nat) (t : Option Addr) (m d : Nat) (bs : Option Addr) (nb bc : Nat) (id pl : Int) (vs : Option Addr) (kp vc : Nat) : Prop := w.cell? ⟨gN, 0, none⟩ = some (.int .i64 p) ∧ w.cell? ⟨gN, 1, none⟩ = some (.slice s n c) ∧ w.cell? ⟨gN, 2, none⟩ = some (.slice t m d) ∧ gN < w.heap.size ∧ w.cell? ⟨gB, 0, none⟩ = some (.slice bs nb bc) ∧ gB < w.heap.size ∧ w.cell? ⟨gP, 0, none⟩ = some (.int .i64 id) ∧ w.cell? ⟨gP, 1, none⟩ = some (.int .i64 pl) ∧ w.cell? ⟨gP, 2, none⟩ = some (.slice vs kp vc) ∧ gP < w.heap.size
theorem GrC.below {w : World} {gN gB gP : Nat} {p : Int} {s : Option Addr} {n c : Nat} {t : Option Addr} {m d : Nat} {bs : Option Addr} {nb bc : Nat} {id pl : Int} {vs : Option Addr} {kp vc : Nat} {w' : World} (h : GrC w gN gB gP p s n c t m d bs nb bc id pl vs kp vc) (hb : Below w.heap.size w w') : GrC w' gN gB gP p s n c t m d bs nb bc id pl vs kp vc := by
  obtain ⟨h1, h2, h3, h4, h5, h6, h7, h8, h9, h10⟩ := h
  exact ⟨(hb.cell (p := ⟨gN, 0, none⟩) h4).trans h1, (hb.cell (p := ⟨gN, 1, none⟩) h4).trans h2, (hb.cell (p := ⟨gN, 2, none⟩) h4).trans h3, Nat.lt_of_lt_of_le h4 hb.size, (hb.cell (p := ⟨gB, 0, none⟩) h6).trans h5, Nat.lt_of_lt_of_le h6 hb.size, (hb.cell (p := ⟨gP, 0, none⟩) h10).trans h7, (hb.cell (p := ⟨gP, 1, none⟩) h10).trans h8, (hb.cell (p := ⟨gP, 2, none⟩) h10).trans h9, Nat.lt_of_lt_of_le h10 hb.size⟩
theorem GrC.beside {w : World} {gN gB gP : Nat} {p : Int} {s : Option Addr} {n c : Nat} {t : Option Addr} {m d : Nat} {bs : Option Addr} {nb bc : Nat} {id pl : Int} {vs : Option Addr} {kp vc : Nat} {w' : World} {r : Nat} (h : GrC w gN gB gP p s n c t m d bs nb bc id pl vs kp vc) (hb : Beside r w w') (r1 : gN ≠ r) (r2 : gB ≠ r) (r3 : gP ≠ r) : GrC w' gN gB gP p s n c t m d bs nb bc id pl vs kp vc := by
  obtain ⟨h1, h2, h3, h4, h5, h6, h7, h8, h9, h10⟩ := h
  have z := hb.2.2.2.1
  exact ⟨(hb.cell (p := ⟨gN, 0, none⟩) h4 r1).trans h1, (hb.cell (p := ⟨gN, 1, none⟩) h4 r1).trans h2, (hb.cell (p := ⟨gN, 2, none⟩) h4 r1).trans h3, Nat.lt_of_lt_of_le h4 z, (hb.cell (p := ⟨gB, 0, none⟩) h6 r2).trans h5, Nat.lt_of_lt_of_le h6 z, (hb.cell (p := ⟨gP, 0, none⟩) h10 r3).trans h7, (hb.cell (p := ⟨gP, 1, none⟩) h10 r3).trans h8, (hb.cell (p := ⟨gP, 2, none⟩) h10 r3).trans h9, Nat.lt_of_lt_of_le h10 z⟩
/-- The inner lists lie apart from r and U, at B and above. -/
def InA (b nb r U B : Nat) (w : World) : Prop := ∀ (i : Nat) (a : Addr) (k' c : Nat), i < nb → w.cell? ⟨b, i * 3 + 2, none⟩ = some (.slice (some a) k' c) → 0 < k' → a.block ≠ r ∧ a.block ≠ U ∧ B ≤ a.block
theorem Hid.mk' {p : Prop} (h : p) : Hid p := h
theorem InA.of {b nb r U B : Nat} {w w' : World} (h : InA b nb r U B w) (e : ∀ i, i < nb → w'.cell? ⟨b, i * 3 + 2, none⟩ = w.cell? ⟨b, i * 3 + 2, none⟩) : InA b nb r U B w' := fun i a k' c hi hc hk => h i a k' c hi ((e i hi).symm.trans hc) hk
theorem InA.below {b nb r U B : Nat} {w w' : World} (h : InA b nb r U B w) (hb : Below w.heap.size w w') (hl : b < w.heap.size) : InA b nb r U B w' := h.of fun i _ => hb.cell (p := ⟨b, i * 3 + 2, none⟩) hl
theorem InA.beside {b nb r U B x : Nat} {w w' : World} (h : InA b nb r U B w) (hb : Beside x w w') (hl : b < w.heap.size) (hx : b ≠ x) : InA b nb r U B w' := h.of fun i _ => hb.cell (p := ⟨b, i * 3 + 2, none⟩) hl hx
theorem PcK.lows {b n k : Nat} {w : World} {X Y : Nat → Int} {K : Nat → Nat} {V : Nat → Nat → Int} (h : PcK b w n k X Y K V) : ∀ (i : Nat) (a : Addr) (k' c : Nat), i < k → w.cell? ⟨b, i * 3 + 2, none⟩ = some (.slice (some a) k' c) → 0 < k' → b < a.block := fun i a k' c hi hc hk => by
  obtain ⟨_, _, ⟨G, h3, _⟩, _⟩ := h
  obtain ⟨a0, c0, _, _, d2, r⟩ := h3 i hi
  rw [hc] at d2
  simp only [Option.some.injEq, Value.slice.injEq] at d2
  obtain ⟨e1, e2, _⟩ := d2
  obtain ⟨r1, r2, _, _⟩ := r (by omega)
  rw [r1] at e1
  cases e1
  exact r2
set_option maxRecDepth 20000 in
set_option maxHeartbeats 8000000 in
theorem implGrant_any (p : Int) (s : Option Addr) (n c : Nat) (D : Nat → Int × Int) (t : Option Addr) (m d : Nat) (S : Nat → Int) (bs : Option Addr) (nb bc : Nat) (X Y : Nat → Int) (K : Nat → Nat) (V : Nat → Nat → Int) (id pl : Int) (vs : Option Addr) (kp vc : Nat) (vp : Nat → Int) (q : Nat) (w : World) (hn : (n : Int) ≤ 1048576) (hm : (m : Int) ≤ 1048576) (HD : Hid (RowDuct w s n D)) (HS : Hid (RowI w t m S)) (hb : (nb : Int) ≤ 1048576) (hc : nb ≤ bc) (hKs : Hid (∀ i, i < nb → (K i : Int) ≤ 1048576)) (HB : Hid (RowPer w bs nb X Y K V)) (hkp : (kp : Int) ≤ 1048576) (HV : Hid (RowI w vs kp vp)) (HQ : Hid (bokB p n D m S nb X Y K V = true → refV p n D m S nb X Y id pl kp vp = 0 → InsAt nb X id q)) :
    Calls Try.prog 16 #[.agg #[.int .i64 p, .slice s n c, .slice t m d], .agg #[.slice bs nb bc], .agg #[.int .i64 id, .int .i64 pl, .slice vs kp vc]] w fun e w' => GrAns p n D m S nb X Y K V id pl kp vp q w e w' := by
  go_enter Try.func16, Try.ntmps16
  go_upto_region 1 with fail
  obtain ⟨wa, hwa⟩ : ∃ z, z = w.alloc (.cells #[.int .i64 p, .slice s n c, .slice t m d] 41) := ⟨_, rfl⟩
  obtain ⟨wb, hwb⟩ : ∃ z, z = wa.alloc (.cells #[.slice bs nb bc] 36) := ⟨_, rfl⟩
  obtain ⟨wc, hwc⟩ : ∃ z, z = wb.alloc (.cells #[.int .i64 id, .int .i64 pl, .slice vs kp vc] 44) := ⟨_, rfl⟩
  obtain ⟨wd, hwd⟩ : ∃ z, z = wc.alloc (.cells #[.slice none 0 0] 36) := ⟨_, rfl⟩
  have ba : Below w.heap.size w wa := by rw [hwa]; exact below0 _ _
  have bb : Below wa.heap.size wa wb := by rw [hwb]; exact below0 _ _
  have bc_ : Below wb.heap.size wb wc := by rw [hwc]; exact below0 _ _
  have bd : Below wc.heap.size wc wd := by rw [hwd]; exact below0 _ _
  obtain ⟨gN, hgN⟩ : ∃ z, z = w.heap.size := ⟨_, rfl⟩
  obtain ⟨gB, hgB⟩ : ∃ z, z = wa.heap.size := ⟨_, rfl⟩
  obtain ⟨gP, hgP⟩ : ∃ z, z = wb.heap.size := ⟨_, rfl⟩
  obtain ⟨gU, hgU⟩ : ∃ z, z = wc.heap.size := ⟨_, rfl⟩
  have sa : wa.heap.size = w.heap.size + 1 := by rw [hwa]; simp
  have sb : wb.heap.size = w.heap.size + 1 + 1 := by rw [hwb]; simp; omega
  have sc : wc.heap.size = w.heap.size + 1 + 1 + 1 := by rw [hwc]; simp; omega
  have sd : wd.heap.size = w.heap.size + 4 := by rw [hwd]; simp; omega
  have hgB1 : w.heap.size + 1 = gB := by omega
  have hgP1 : w.heap.size + 1 + 1 = gP := by omega
  have hgU1 : w.heap.size + 1 + 1 + 1 = gU := by omega
  have HN : Hid (Blk wd gN [.int .i64 p, .slice s n c, .slice t m d]) := by rw [hgN]; exact (((by rw [hwa]; exact Blk.new w #[.int .i64 p, .slice s n c, .slice t m d] _ : Blk wa w.heap.size [.int .i64 p, .slice s n c, .slice t m d]).below bb).below bc_).below bd
  have HBk : Hid (Blk wd gB [.slice bs nb bc]) := by rw [hgB]; exact ((by rw [hwb]; exact Blk.new wa #[.slice bs nb bc] _ : Blk wb wa.heap.size [.slice bs nb bc]).below bc_).below bd
  have HP : Hid (Blk wd gP [.int .i64 id, .int .i64 pl, .slice vs kp vc]) := by rw [hgP]; exact (by rw [hwc]; exact Blk.new wb #[.int .i64 id, .int .i64 pl, .slice vs kp vc] _ : Blk wc wb.heap.size [.int .i64 id, .int .i64 pl, .slice vs kp vc]).below bd
  have HU : Hid (Blk wd gU [.slice none 0 0]) := by rw [hgU, hwd]; exact Blk.new wc #[.slice none 0 0] _
  have HBd : Hid (Below w.heap.size w wd) := ba.trans ((bb.trans ((bc_.trans (bd.mono bc_.size)).mono bb.size)).mono ba.size)
  have zz : w.heap.size ≤ gN ∧ gN < gB ∧ gB < gP ∧ gP < gU ∧ gU < wd.heap.size := by omega
  try rw [← hwa]
  try rw [← hwb]
  try rw [← hwc]
  try rw [← hwd]
  try rw [hgU1]
  try rw [hgP1]
  try rw [hgB1]
  try rw [← hgU]
  try rw [← hgP]
  try rw [← hgB]
  try rw [← hgN]
  clear hwa hwb hwc hwd ba bb bc_ bd hgN hgB hgP hgU sa sb sc sd hgB1 hgP1 hgU1
  obtain ⟨z1, z2, z3, z4, z5⟩ := zz
  have HDd : Hid (RowDuct wd s n D) := HD.out.below HBd.out
  have HSd : Hid (RowI wd t m S) := HS.out.below HBd.out
  have HPd : Hid (RowPer wd bs nb X Y K V) := HB.out.below HBd.out
  obtain ⟨zN, -, cN⟩ := HN.out
  have n0 := cN 0 _ rfl
  have n1 := cN 1 _ rfl
  have n2 := cN 2 _ rfl
  obtain ⟨zB, -, cB⟩ := HBk.out
  have b0 := cB 0 _ rfl
  clear cN cB
  go_wp2_with fail
  refine (implBookOk_any p s n c D t m d S bs nb bc X Y K V _ hn hm HDd HSd hb hc hKs HPd).mono ?_
  rintro e w1 ⟨rfl, h1⟩
  clear n0 n1 n2 zN zB b0
  replace HN : Hid (Blk w1 gN [.int .i64 p, .slice s n c, .slice t m d]) := HN.out.below h1
  replace HBk : Hid (Blk w1 gB [.slice bs nb bc]) := HBk.out.below h1
  replace HP : Hid (Blk w1 gP [.int .i64 id, .int .i64 pl, .slice vs kp vc]) := HP.out.below h1
  replace HU : Hid (Blk w1 gU [.slice none 0 0]) := HU.out.below h1
  have HB1 : Hid (Below w.heap.size w w1) := HBd.out.trans (h1.mono HBd.out.size)
  clear h1 HDd HSd HPd HBd z5
  have hst := store_slT
  obtain ⟨ok, hok⟩ : ∃ ok, bokB p n D m S nb X Y K V = ok := ⟨_, rfl⟩
  have HOK : Hid (bokB p n D m S nb X Y K V = ok) := hok
  rw [hok]
  clear hok
  cases ok
  case false =>
    obtain ⟨zU, fU, cU⟩ := HU.out
    have u0 := cU 0 _ rfl
    have uf := fU 0
    clear fU cU
    have HBu : Hid (Below w.heap.size w (w1.setCell ⟨gU, 0, none⟩ (.slice none 0 0))) := HB1.out.trans ((Beside.setCell gU w1 0 _).below (by omega) HB1.out.size)
    go_wp2
    refine bodyPost_ret (v := .tuple #[.agg #[.slice none 0 0], .int .i64 1]) (by simp [results, Try.results16, go_sem, u0]) rfl ?_
    refine GrAns.bad HOK.out ?_
    exact ⟨none, 0, fun _ => False, rfl, fun k hk => hk.elim, no_book _ _ _ _ _ _, HBu.out⟩
  case true =>
    obtain ⟨n40, nb20, -⟩ := bok_in HOK.out
    have HNT : Hid (netB p n D m S = true) := (bok_yes HOK.out).1
    have HRI : Hid (∀ i j, i < j → j < nb → X i < X j) := bok_rises HOK.out
    have HC1 : Hid (GrC w1 gN gB gP p s n c t m d bs nb bc id pl vs kp vc) := ⟨HN.out.2.2 0 _ rfl, HN.out.2.2 1 _ rfl, HN.out.2.2 2 _ rfl, HN.out.1, HBk.out.2.2 0 _ rfl, HBk.out.1, HP.out.2.2 0 _ rfl, HP.out.2.2 1 _ rfl, HP.out.2.2 2 _ rfl, HP.out.1⟩
    clear HN HBk HP
    obtain ⟨cd, hcd⟩ : ∃ cd, refV p n D m S nb X Y id pl kp vp = cd := ⟨_, rfl⟩
    have HCD : Hid (refV p n D m S nb X Y id pl kp vp = cd) := hcd
    clear hcd hst
    go_upto_region 3 with fail
    go_cut [8, 9] (fun v8 v9 wx => ∃ b gX : Nat, v8 = .pointer (some ⟨gX, 0, none⟩) ∧ v9 = .int .i64 cd ∧ Hid (Blk wx gX [.slice (some ⟨b, 0, none⟩) nb nb]) ∧ Hid (PcK b wx nb nb X Y K V) ∧ Hid (InA b nb gX gU w1.heap.size wx) ∧ b ≠ gX ∧ w1.heap.size ≤ b ∧ w1.heap.size ≤ gX ∧ Hid (Below w1.heap.size w1 wx))
    case first =>
      refine wp_region_held_drew (S := fun w' => GrC w' gN gB gP p s n c t m d bs nb bc id pl vs kp vc) (by kernel_rfl) ?_ (fun hHeld => ?_)
      · exact HC1.out
      obtain ⟨v0, hv0⟩ : ∃ z, z = w1.drew := ⟨_, rfl⟩
      try rw [← hv0] at hHeld
      rw [← hv0]
      have bv0 : Below w1.heap.size w1 v0 := by rw [hv0]; exact Below.drew (Below.refl _ _)
      clear hv0
      have HC0 : Hid (GrC v0 gN gB gP p s n c t m d bs nb bc id pl vs kp vc) := HC1.out.below bv0
      have HW0 : Hid (Below w1.heap.size w1 v0) := bv0
      have zw0 : w1.heap.size ≤ v0.heap.size := bv0.size
      have HR0 : Hid (RowPer v0 bs nb X Y K V) := (HB.out.below HB1.out).below bv0
      have HD0 : Hid (RowDuct v0 s n D) := (HD.out.below HB1.out).below bv0
      have HS0 : Hid (RowI v0 t m S) := (HS.out.below HB1.out).below bv0
      have HV0 : Hid (RowI v0 vs kp vp) := (HV.out.below HB1.out).below bv0
      have zU1 : gU < w1.heap.size := HU.out.1
      have LC0 : True := trivial
      have LX0 : True := trivial
      clear bv0
      refine wpAnyH_take (i := 0) (v := .agg #[.slice bs nb bc]) rfl (by kernel_rfl) (by kernel_rfl) (by kernel_rfl) (fun _ _ _ h => h) (Or.inl ⟨by kernel_rfl, ?_⟩) hHeld ?_
      · intro w' hSw
        obtain ⟨hn0, hn1, hn2, hnz, hb0, hbz, hp0, hp1, hp2, hpz⟩ := hSw
        first | (go_simp; done) | (go_simp; with_reducible rfl) | (go_simp; rw [IntKind.wrap_i64]; omega) | (go_simp; omega)
      simp only [Act.put, List.setIfInBounds_toArray, List.set_cons_zero, List.set_cons_succ]
      refine wpAnyH_take (i := 2) (v := .agg #[.slice bs nb bc]) rfl (by kernel_rfl) (by kernel_rfl) (by kernel_rfl) (fun _ _ _ h => h) (Or.inl ⟨by kernel_rfl, ?_⟩) hHeld ?_
      · intro w' hSw
        obtain ⟨hn0, hn1, hn2, hnz, hb0, hbz, hp0, hp1, hp2, hpz⟩ := hSw
        first | (go_simp; done) | (go_simp; with_reducible rfl) | (go_simp; rw [IntKind.wrap_i64]; omega) | (go_simp; omega)
      simp only [Act.put, List.setIfInBounds_toArray, List.set_cons_zero, List.set_cons_succ]
      refine wpAnyH_take (i := 3) (v := .agg #[.int .i64 p, .slice s n c, .slice t m d]) rfl (by kernel_rfl) (by kernel_rfl) (by kernel_rfl) (fun _ _ _ h => h) (Or.inl ⟨by kernel_rfl, ?_⟩) hHeld ?_
      · intro w' hSw
        obtain ⟨hn0, hn1, hn2, hnz, hb0, hbz, hp0, hp1, hp2, hpz⟩ := hSw
        first | (go_simp; done) | (go_simp; with_reducible rfl) | (go_simp; rw [IntKind.wrap_i64]; omega) | (go_simp; omega)
      simp only [Act.put, List.setIfInBounds_toArray, List.set_cons_zero, List.set_cons_succ]
      refine wpAnyH_take (i := 4) (v := .agg #[.int .i64 id, .int .i64 pl, .slice vs kp vc]) rfl (by kernel_rfl) (by kernel_rfl) (by kernel_rfl) (fun _ _ _ h => h) (Or.inl ⟨by kernel_rfl, ?_⟩) hHeld ?_
      · intro w' hSw
        obtain ⟨hn0, hn1, hn2, hnz, hb0, hbz, hp0, hp1, hp2, hpz⟩ := hSw
        first | (go_simp; done) | (go_simp; with_reducible rfl) | (go_simp; rw [IntKind.wrap_i64]; omega) | (go_simp; omega)
      simp only [Act.put, List.setIfInBounds_toArray, List.set_cons_zero, List.set_cons_succ]
      refine wpAnyH_ready (rs := [1, 6]) (by kernel_rfl) (by simp) ?_
      refine (AllReadyH.cons rfl (fun KK hK => ?_) (AllReadyH.cons rfl (fun KK hK => ?_) AllReadyH.nil))
      · go_simp
        go_wp2_with (first | (go_at_call 51; refine (bookCopied_any bs nb bc X Y K V _ hb hKs HR0).mono ?_; rintro e v0_1 ⟨b, rfl, hb1, hpc, b_⟩))
        have HPC : Hid (PcK b v0_1 nb nb X Y K V) := hpc
        have HB9 : Hid (v0.heap.size ≤ b) := hb1
        have zbw : w1.heap.size ≤ b := by omega
        replace HC0 : Hid (GrC v0_1 gN gB gP p s n c t m d bs nb bc id pl vs kp vc) := HC0.out.below b_
        replace HW0 : Hid (Below w1.heap.size w1 v0_1) := HW0.out.trans (b_.mono HW0.out.size)
        replace zw0 : w1.heap.size ≤ v0_1.heap.size := Nat.le_trans zw0 b_.size
        replace HR0 : Hid (RowPer v0_1 bs nb X Y K V) := HR0.out.below b_
        replace HD0 : Hid (RowDuct v0_1 s n D) := HD0.out.below b_
        replace HS0 : Hid (RowI v0_1 t m S) := HS0.out.below b_
        replace HV0 : Hid (RowI v0_1 vs kp vp) := HV0.out.below b_
        clear hpc hb1 b_
        refine hK.out _ _ (HC0.out) (fun hHeld => ?_)
        clear hK KK
        refine wpAnyH_ready (rs := [5, 6]) (by kernel_rfl) (by simp) ?_
        refine (AllReadyH.cons rfl (fun KK hK => ?_) (AllReadyH.cons rfl (fun KK hK => ?_) AllReadyH.nil))
        · go_simp
          go_wp2_with (first | (go_at_call 52; refine (refusal_any bs nb bc X Y K V p s n c D t m d S id pl vs kp vc vp _ HNT hb hkp hn hm HD0 HS0 HR0 HV0).mono ?_; rintro e v0_2 ⟨rfl, b_⟩))
          replace HPC : Hid (PcK b v0_2 nb nb X Y K V) := HPC.out.below b_
          replace HC0 : Hid (GrC v0_2 gN gB gP p s n c t m d bs nb bc id pl vs kp vc) := HC0.out.below b_
          replace HW0 : Hid (Below w1.heap.size w1 v0_2) := HW0.out.trans (b_.mono HW0.out.size)
          replace zw0 : w1.heap.size ≤ v0_2.heap.size := Nat.le_trans zw0 b_.size
          replace HR0 : Hid (RowPer v0_2 bs nb X Y K V) := HR0.out.below b_
          replace HD0 : Hid (RowDuct v0_2 s n D) := HD0.out.below b_
          replace HS0 : Hid (RowI v0_2 t m S) := HS0.out.below b_
          replace HV0 : Hid (RowI v0_2 vs kp vp) := HV0.out.below b_
          try rw [HCD.out]
          clear b_
          refine hK.out _ _ (HC0.out) (fun hHeld => ?_)
          clear hK KK
          refine wpAnyH_ready (rs := [6]) (by kernel_rfl) (by simp) ?_
          refine (AllReadyH.cons rfl (fun KK hK => ?_) AllReadyH.nil)
          go_simp
          obtain ⟨v0_3, hv_⟩ : ∃ z, z = v0_2.alloc (.cells #[.slice none 0 0] 36) := ⟨_, rfl⟩
          rw [← hv_]
          obtain ⟨gX, hgX⟩ : ∃ z, z = v0_2.heap.size := ⟨_, rfl⟩
          have b_ : Below v0_2.heap.size v0_2 v0_3 := by rw [hv_]; exact below0 _ _
          have HXb : Hid (Blk v0_3 gX [.slice none 0 0]) := by rw [hv_, hgX]; exact Blk.new v0_2 #[.slice none 0 0] _
          have zxw : w1.heap.size ≤ gX := by omega
          have NBX : b ≠ gX := by have := HPC.out.1; omega
          have HIA : Hid (InA b nb gX gU w1.heap.size v0_3) := fun i a k' c_ hi hc hk => by
            have hc' : v0_2.cell? ⟨b, i * 3 + 2, none⟩ = some (.slice (some a) k' c_) := (b_.cell (p := ⟨b, i * 3 + 2, none⟩) HPC.out.1).symm.trans hc
            have := HPC.out.lows i a k' c_ hi hc' hk
            have := HPC.out.inner i a k' c_ hi hc' hk
            exact ⟨by omega, by omega, by omega⟩
          replace HPC : Hid (PcK b v0_3 nb nb X Y K V) := HPC.out.below b_
          replace HC0 : Hid (GrC v0_3 gN gB gP p s n c t m d bs nb bc id pl vs kp vc) := HC0.out.below b_
          replace HW0 : Hid (Below w1.heap.size w1 v0_3) := HW0.out.trans (b_.mono HW0.out.size)
          replace zw0 : w1.heap.size ≤ v0_3.heap.size := Nat.le_trans zw0 b_.size
          replace HR0 : Hid (RowPer v0_3 bs nb X Y K V) := HR0.out.below b_
          replace HD0 : Hid (RowDuct v0_3 s n D) := HD0.out.below b_
          replace HS0 : Hid (RowI v0_3 t m S) := HS0.out.below b_
          replace HV0 : Hid (RowI v0_3 vs kp vp) := HV0.out.below b_
          try rw [← hgX]
          clear hv_ b_ hgX
          refine hK.out _ _ (HC0.out) (fun hHeld => ?_)
          clear hK KK
          refine wpAnyH_ready (rs := [7]) (by kernel_rfl) (by simp) ?_
          refine (AllReadyH.cons rfl (fun KK hK => ?_) AllReadyH.nil)
          have hl_ := HXb.out.2.2 0 _ rfl
          have hf_ := HXb.out.2.1 0
          have hg_ := HXb.out.1
          have hst := store_slT
          go_simp
          obtain ⟨v0_4, hv_⟩ : ∃ z, z = v0_3.setCell ⟨gX, 0, none⟩ (.slice (some ⟨b, 0, none⟩) nb nb) := ⟨_, rfl⟩
          rw [← hv_]
          have bs_ : Beside gX v0_3 v0_4 := by rw [hv_]; exact Beside.setCell gX _ _ _
          have HX9 : Hid (Blk v0_4 gX [.slice (some ⟨b, 0, none⟩) nb nb]) := by rw [hv_]; exact HXb.out.set 0 _
          have HIA9 : Hid (InA b nb gX gU w1.heap.size v0_4) := HIA.out.beside bs_ HPC.out.1 NBX
          have HPC9 : Hid (PcK b v0_4 nb nb X Y K V) := HPC.out.besideH bs_ NBX (fun i a k' c_ hi hc hk => (HIA.out i a k' c_ hi hc hk).1)
          have HC9 : Hid (GrC v0_4 gN gB gP p s n c t m d bs nb bc id pl vs kp vc) := HC0.out.beside bs_ (by omega) (by omega) (by omega)
          have HW9 : Hid (Below w1.heap.size w1 v0_4) := HW0.out.trans (bs_.below zxw HW0.out.size)
          clear hv_ bs_ hl_ hf_ hg_ hst
          refine hK.out _ _ (HC9.out) (fun hHeld => ?_)
          clear hK KK
          refine wpAnyH_ready (rs := [8]) (by kernel_rfl) (by simp) ?_
          refine AllReadyH.cons rfl (fun KK hK => ?_) AllReadyH.nil
          go_simp
          refine hK.out _ _ hHeld (fun hHeld => ?_)
          clear hK KK
          refine wpAnyH_done (by kernel_rfl) ?_ _
          clear hHeld
          go_wp2_with fail
          go_meet
          exact ⟨b, gX, rfl, rfl, HX9, HPC9, HIA9, NBX, zbw, zxw, HW9⟩
        · go_simp
          obtain ⟨v0_5, hv_⟩ : ∃ z, z = v0_1.alloc (.cells #[.slice none 0 0] 36) := ⟨_, rfl⟩
          rw [← hv_]
          obtain ⟨gX, hgX⟩ : ∃ z, z = v0_1.heap.size := ⟨_, rfl⟩
          have b_ : Below v0_1.heap.size v0_1 v0_5 := by rw [hv_]; exact below0 _ _
          have HXb : Hid (Blk v0_5 gX [.slice none 0 0]) := by rw [hv_, hgX]; exact Blk.new v0_1 #[.slice none 0 0] _
          have zxw : w1.heap.size ≤ gX := by omega
          have NBX : b ≠ gX := by have := HPC.out.1; omega
          have HIA : Hid (InA b nb gX gU w1.heap.size v0_5) := fun i a k' c_ hi hc hk => by
            have hc' : v0_1.cell? ⟨b, i * 3 + 2, none⟩ = some (.slice (some a) k' c_) := (b_.cell (p := ⟨b, i * 3 + 2, none⟩) HPC.out.1).symm.trans hc
            have := HPC.out.lows i a k' c_ hi hc' hk
            have := HPC.out.inner i a k' c_ hi hc' hk
            exact ⟨by omega, by omega, by omega⟩
          replace HPC : Hid (PcK b v0_5 nb nb X Y K V) := HPC.out.below b_
          replace HC0 : Hid (GrC v0_5 gN gB gP p s n c t m d bs nb bc id pl vs kp vc) := HC0.out.below b_
          replace HW0 : Hid (Below w1.heap.size w1 v0_5) := HW0.out.trans (b_.mono HW0.out.size)
          replace zw0 : w1.heap.size ≤ v0_5.heap.size := Nat.le_trans zw0 b_.size
          replace HR0 : Hid (RowPer v0_5 bs nb X Y K V) := HR0.out.below b_
          replace HD0 : Hid (RowDuct v0_5 s n D) := HD0.out.below b_
          replace HS0 : Hid (RowI v0_5 t m S) := HS0.out.below b_
          replace HV0 : Hid (RowI v0_5 vs kp vp) := HV0.out.below b_
          try rw [← hgX]
          clear hv_ b_ hgX
          refine hK.out _ _ (HC0.out) (fun hHeld => ?_)
          clear hK KK
          refine wpAnyH_ready (rs := [5]) (by kernel_rfl) (by simp) ?_
          refine (AllReadyH.cons rfl (fun KK hK => ?_) AllReadyH.nil)
          go_simp
          go_wp2_with (first | (go_at_call 52; refine (refusal_any bs nb bc X Y K V p s n c D t m d S id pl vs kp vc vp _ HNT hb hkp hn hm HD0 HS0 HR0 HV0).mono ?_; rintro e v0_6 ⟨rfl, b_⟩))
          replace HIA : Hid (InA b nb gX gU w1.heap.size v0_6) := HIA.out.below b_ HPC.out.1
          replace HXb : Hid (Blk v0_6 gX [.slice none 0 0]) := HXb.out.below b_
          replace HPC : Hid (PcK b v0_6 nb nb X Y K V) := HPC.out.below b_
          replace HC0 : Hid (GrC v0_6 gN gB gP p s n c t m d bs nb bc id pl vs kp vc) := HC0.out.below b_
          replace HW0 : Hid (Below w1.heap.size w1 v0_6) := HW0.out.trans (b_.mono HW0.out.size)
          replace zw0 : w1.heap.size ≤ v0_6.heap.size := Nat.le_trans zw0 b_.size
          replace HR0 : Hid (RowPer v0_6 bs nb X Y K V) := HR0.out.below b_
          replace HD0 : Hid (RowDuct v0_6 s n D) := HD0.out.below b_
          replace HS0 : Hid (RowI v0_6 t m S) := HS0.out.below b_
          replace HV0 : Hid (RowI v0_6 vs kp vp) := HV0.out.below b_
          try rw [HCD.out]
          clear b_
          refine hK.out _ _ (HC0.out) (fun hHeld => ?_)
          clear hK KK
          refine wpAnyH_ready (rs := [7]) (by kernel_rfl) (by simp) ?_
          refine (AllReadyH.cons rfl (fun KK hK => ?_) AllReadyH.nil)
          have hl_ := HXb.out.2.2 0 _ rfl
          have hf_ := HXb.out.2.1 0
          have hg_ := HXb.out.1
          have hst := store_slT
          go_simp
          obtain ⟨v0_7, hv_⟩ : ∃ z, z = v0_6.setCell ⟨gX, 0, none⟩ (.slice (some ⟨b, 0, none⟩) nb nb) := ⟨_, rfl⟩
          rw [← hv_]
          have bs_ : Beside gX v0_6 v0_7 := by rw [hv_]; exact Beside.setCell gX _ _ _
          have HX9 : Hid (Blk v0_7 gX [.slice (some ⟨b, 0, none⟩) nb nb]) := by rw [hv_]; exact HXb.out.set 0 _
          have HIA9 : Hid (InA b nb gX gU w1.heap.size v0_7) := HIA.out.beside bs_ HPC.out.1 NBX
          have HPC9 : Hid (PcK b v0_7 nb nb X Y K V) := HPC.out.besideH bs_ NBX (fun i a k' c_ hi hc hk => (HIA.out i a k' c_ hi hc hk).1)
          have HC9 : Hid (GrC v0_7 gN gB gP p s n c t m d bs nb bc id pl vs kp vc) := HC0.out.beside bs_ (by omega) (by omega) (by omega)
          have HW9 : Hid (Below w1.heap.size w1 v0_7) := HW0.out.trans (bs_.below zxw HW0.out.size)
          clear hv_ bs_ hl_ hf_ hg_ hst
          refine hK.out _ _ (HC9.out) (fun hHeld => ?_)
          clear hK KK
          refine wpAnyH_ready (rs := [8]) (by kernel_rfl) (by simp) ?_
          refine AllReadyH.cons rfl (fun KK hK => ?_) AllReadyH.nil
          go_simp
          refine hK.out _ _ hHeld (fun hHeld => ?_)
          clear hK KK
          refine wpAnyH_done (by kernel_rfl) ?_ _
          clear hHeld
          go_wp2_with fail
          go_meet
          exact ⟨b, gX, rfl, rfl, HX9, HPC9, HIA9, NBX, zbw, zxw, HW9⟩
      · go_simp
        obtain ⟨v0_8, hv_⟩ : ∃ z, z = v0.alloc (.cells #[.slice none 0 0] 36) := ⟨_, rfl⟩
        rw [← hv_]
        obtain ⟨gX, hgX⟩ : ∃ z, z = v0.heap.size := ⟨_, rfl⟩
        have b_ : Below v0.heap.size v0 v0_8 := by rw [hv_]; exact below0 _ _
        have HXb : Hid (Blk v0_8 gX [.slice none 0 0]) := by rw [hv_, hgX]; exact Blk.new v0 #[.slice none 0 0] _
        have zxw : w1.heap.size ≤ gX := by omega
        replace HC0 : Hid (GrC v0_8 gN gB gP p s n c t m d bs nb bc id pl vs kp vc) := HC0.out.below b_
        replace HW0 : Hid (Below w1.heap.size w1 v0_8) := HW0.out.trans (b_.mono HW0.out.size)
        replace zw0 : w1.heap.size ≤ v0_8.heap.size := Nat.le_trans zw0 b_.size
        replace HR0 : Hid (RowPer v0_8 bs nb X Y K V) := HR0.out.below b_
        replace HD0 : Hid (RowDuct v0_8 s n D) := HD0.out.below b_
        replace HS0 : Hid (RowI v0_8 t m S) := HS0.out.below b_
        replace HV0 : Hid (RowI v0_8 vs kp vp) := HV0.out.below b_
        try rw [← hgX]
        clear hv_ b_ hgX
        refine hK.out _ _ (HC0.out) (fun hHeld => ?_)
        clear hK KK
        refine wpAnyH_ready (rs := [1]) (by kernel_rfl) (by simp) ?_
        refine (AllReadyH.cons rfl (fun KK hK => ?_) AllReadyH.nil)
        go_simp
        go_wp2_with (first | (go_at_call 51; refine (bookCopied_any bs nb bc X Y K V _ hb hKs HR0).mono ?_; rintro e v0_9 ⟨b, rfl, hb1, hpc, b_⟩))
        have HPC : Hid (PcK b v0_9 nb nb X Y K V) := hpc
        have HB9 : Hid (v0_8.heap.size ≤ b) := hb1
        have zbw : w1.heap.size ≤ b := by omega
        have NBX : b ≠ gX := by have := HXb.out.1; omega
        have HIA : Hid (InA b nb gX gU w1.heap.size v0_9) := fun i a k' c_ hi hc hk => by
          have := HPC.out.lows i a k' c_ hi hc hk
          have := HXb.out.1
          exact ⟨by omega, by omega, by omega⟩
        replace HXb : Hid (Blk v0_9 gX [.slice none 0 0]) := HXb.out.below b_
        replace HC0 : Hid (GrC v0_9 gN gB gP p s n c t m d bs nb bc id pl vs kp vc) := HC0.out.below b_
        replace HW0 : Hid (Below w1.heap.size w1 v0_9) := HW0.out.trans (b_.mono HW0.out.size)
        replace zw0 : w1.heap.size ≤ v0_9.heap.size := Nat.le_trans zw0 b_.size
        replace HR0 : Hid (RowPer v0_9 bs nb X Y K V) := HR0.out.below b_
        replace HD0 : Hid (RowDuct v0_9 s n D) := HD0.out.below b_
        replace HS0 : Hid (RowI v0_9 t m S) := HS0.out.below b_
        replace HV0 : Hid (RowI v0_9 vs kp vp) := HV0.out.below b_
        clear hpc hb1 b_
        refine hK.out _ _ (HC0.out) (fun hHeld => ?_)
        clear hK KK
        refine wpAnyH_ready (rs := [5]) (by kernel_rfl) (by simp) ?_
        refine (AllReadyH.cons rfl (fun KK hK => ?_) AllReadyH.nil)
        go_simp
        go_wp2_with (first | (go_at_call 52; refine (refusal_any bs nb bc X Y K V p s n c D t m d S id pl vs kp vc vp _ HNT hb hkp hn hm HD0 HS0 HR0 HV0).mono ?_; rintro e v0_10 ⟨rfl, b_⟩))
        replace HIA : Hid (InA b nb gX gU w1.heap.size v0_10) := HIA.out.below b_ HPC.out.1
        replace HXb : Hid (Blk v0_10 gX [.slice none 0 0]) := HXb.out.below b_
        replace HPC : Hid (PcK b v0_10 nb nb X Y K V) := HPC.out.below b_
        replace HC0 : Hid (GrC v0_10 gN gB gP p s n c t m d bs nb bc id pl vs kp vc) := HC0.out.below b_
        replace HW0 : Hid (Below w1.heap.size w1 v0_10) := HW0.out.trans (b_.mono HW0.out.size)
        replace zw0 : w1.heap.size ≤ v0_10.heap.size := Nat.le_trans zw0 b_.size
        replace HR0 : Hid (RowPer v0_10 bs nb X Y K V) := HR0.out.below b_
        replace HD0 : Hid (RowDuct v0_10 s n D) := HD0.out.below b_
        replace HS0 : Hid (RowI v0_10 t m S) := HS0.out.below b_
        replace HV0 : Hid (RowI v0_10 vs kp vp) := HV0.out.below b_
        try rw [HCD.out]
        clear b_
        refine hK.out _ _ (HC0.out) (fun hHeld => ?_)
        clear hK KK
        refine wpAnyH_ready (rs := [7]) (by kernel_rfl) (by simp) ?_
        refine (AllReadyH.cons rfl (fun KK hK => ?_) AllReadyH.nil)
        have hl_ := HXb.out.2.2 0 _ rfl
        have hf_ := HXb.out.2.1 0
        have hg_ := HXb.out.1
        have hst := store_slT
        go_simp
        obtain ⟨v0_11, hv_⟩ : ∃ z, z = v0_10.setCell ⟨gX, 0, none⟩ (.slice (some ⟨b, 0, none⟩) nb nb) := ⟨_, rfl⟩
        rw [← hv_]
        have bs_ : Beside gX v0_10 v0_11 := by rw [hv_]; exact Beside.setCell gX _ _ _
        have HX9 : Hid (Blk v0_11 gX [.slice (some ⟨b, 0, none⟩) nb nb]) := by rw [hv_]; exact HXb.out.set 0 _
        have HIA9 : Hid (InA b nb gX gU w1.heap.size v0_11) := HIA.out.beside bs_ HPC.out.1 NBX
        have HPC9 : Hid (PcK b v0_11 nb nb X Y K V) := HPC.out.besideH bs_ NBX (fun i a k' c_ hi hc hk => (HIA.out i a k' c_ hi hc hk).1)
        have HC9 : Hid (GrC v0_11 gN gB gP p s n c t m d bs nb bc id pl vs kp vc) := HC0.out.beside bs_ (by omega) (by omega) (by omega)
        have HW9 : Hid (Below w1.heap.size w1 v0_11) := HW0.out.trans (bs_.below zxw HW0.out.size)
        clear hv_ bs_ hl_ hf_ hg_ hst
        refine hK.out _ _ (HC9.out) (fun hHeld => ?_)
        clear hK KK
        refine wpAnyH_ready (rs := [8]) (by kernel_rfl) (by simp) ?_
        refine AllReadyH.cons rfl (fun KK hK => ?_) AllReadyH.nil
        go_simp
        refine hK.out _ _ hHeld (fun hHeld => ?_)
        clear hK KK
        refine wpAnyH_done (by kernel_rfl) ?_ _
        clear hHeld
        go_wp2_with fail
        go_meet
        exact ⟨b, gX, rfl, rfl, HX9, HPC9, HIA9, NBX, zbw, zxw, HW9⟩
    obtain ⟨b, gX, rfl, rfl, HXb, HPC, HIA, nbx, zbw, zxw, HW⟩ := hcut
    rename World => w3
    have zU1 : gU < w1.heap.size := HU.out.1
    have HC3 : Hid (GrC w3 gN gB gP p s n c t m d bs nb bc id pl vs kp vc) := HC1.out.below HW.out
    have HU3 : Hid (Blk w3 gU [.slice none 0 0]) := HU.out.below HW.out
    have HB3 : Hid (Below w.heap.size w w3) := HB1.out.trans (HW.out.mono HB1.out.size)
    have zw1 : w.heap.size ≤ w1.heap.size := HB1.out.size
    clear HC1 HU HB1 HW
    by_cases hc0 : cd = 0
    case neg =>
      have cb : (cd == 0) = false := beq_false_of_ne hc0
      have x0 := HXb.out.2.2 0 _ rfl
      have xz := HXb.out.1
      obtain ⟨zU, fU, cU⟩ := HU3.out
      have u0 := cU 0 _ rfl
      have uf := fU 0
      have hst := store_slT
      have bsU : Beside gU w3 (w3.setCell ⟨gU, 0, none⟩ (.slice (some ⟨b, 0, none⟩) nb nb)) := Beside.setCell gU _ 0 _
      have HP6 : Hid (PerR (fun k => w.heap.size ≤ k ∧ k < (w3.setCell ⟨gU, 0, none⟩ (.slice (some ⟨b, 0, none⟩) nb nb)).heap.size) (w3.setCell ⟨gU, 0, none⟩ (.slice (some ⟨b, 0, none⟩) nb nb)) (some ⟨b, 0, none⟩) nb X Y K V) := (HPC.out.besideH bsU (by omega) (fun i a k' c_ hi hc hk => (HIA.out i a k' c_ hi hc hk).2.1)).perK (by omega)
      have HW6 : Hid (Below w.heap.size w (w3.setCell ⟨gU, 0, none⟩ (.slice (some ⟨b, 0, none⟩) nb nb))) := HB3.out.trans (bsU.below (by omega) HB3.out.size)
      clear bsU cU fU
      go_wp2
      refine bodyPost_ret (v := .tuple #[.agg #[.slice (some ⟨b, 0, none⟩) nb nb], .int .i64 cd]) (by simp [results, Try.results16, go_sem, u0]) rfl ?_
      refine GrAns.no HOK.out HCD.out hc0 ?_
      exact ⟨_, nb, _, rfl, fun k hk => hk, HP6.out, HW6.out⟩
    case pos =>
      subst hc0
      have HIQ : Hid (InsAt nb X id q) := HQ.out HOK.out HCD.out
      have HRb : Hid (RowPer w3 bs nb X Y K V) := HB.out.below HB3.out
      go_upto_region 5 with fail
      refine wp_region_held_drew (S := fun w' => GrC w' gN gB gP p s n c t m d bs nb bc id pl vs kp vc) (by kernel_rfl) ?_ (fun hHeld => ?_)
      · exact HC3.out
      obtain ⟨v0, hv0⟩ : ∃ z, z = w3.drew := ⟨_, rfl⟩
      try rw [← hv0] at hHeld
      rw [← hv0]
      have bv0 : Below w3.heap.size w3 v0 := by rw [hv0]; exact Below.drew (Below.refl _ _)
      clear hv0
      have HC4 : Hid (GrC v0 gN gB gP p s n c t m d bs nb bc id pl vs kp vc) := HC3.out.below bv0
      have HU4 : Hid (Blk v0 gU [.slice none 0 0]) := HU3.out.below bv0
      have HX4 : Hid (Blk v0 gX [.slice (some ⟨b, 0, none⟩) nb nb]) := HXb.out.below bv0
      have HPC4 : Hid (PcK b v0 nb nb X Y K V) := HPC.out.below bv0
      have HIA4 : Hid (InA b nb gX gU w1.heap.size v0) := HIA.out.below bv0 HPC.out.1
      have HB4 : Hid (Below w.heap.size w v0) := HB3.out.trans (bv0.mono HB3.out.size)
      have HR4 : Hid (RowPer v0 bs nb X Y K V) := HRb.out.below bv0
      clear bv0 HC3 HU3 HXb HPC HIA HB3 HRb
      refine wpAnyH_take (i := 0) (v := .agg #[.slice bs nb bc]) rfl (by kernel_rfl) (by kernel_rfl) (by kernel_rfl) (fun _ _ _ h => h) (Or.inl ⟨by kernel_rfl, ?_⟩) hHeld ?_
      · intro w' hSw
        obtain ⟨hn0, hn1, hn2, hnz, hb0, hbz, hp0, hp1, hp2, hpz⟩ := hSw
        first | (go_simp; done) | (go_simp; with_reducible rfl) | (go_simp; rw [IntKind.wrap_i64]; omega) | (go_simp; omega)
      simp only [Act.put, List.setIfInBounds_toArray, List.set_cons_zero, List.set_cons_succ]
      refine wpAnyH_take (i := 2) (v := .pointer (some ⟨gP, 0, none⟩)) rfl (by kernel_rfl) (by kernel_rfl) (by kernel_rfl) (fun _ _ _ h => h) (Or.inl ⟨by kernel_rfl, ?_⟩) hHeld ?_
      · intro w' hSw
        obtain ⟨hn0, hn1, hn2, hnz, hb0, hbz, hp0, hp1, hp2, hpz⟩ := hSw
        first | (go_simp; done) | (go_simp; with_reducible rfl) | (go_simp; rw [IntKind.wrap_i64]; omega) | (go_simp; omega)
      simp only [Act.put, List.setIfInBounds_toArray, List.set_cons_zero, List.set_cons_succ]
      refine wpAnyH_take (i := 3) (v := .int .i64 id) rfl (by kernel_rfl) (by kernel_rfl) (by kernel_rfl) (fun _ _ _ h => h) (Or.inl ⟨by kernel_rfl, ?_⟩) hHeld ?_
      · intro w' hSw
        obtain ⟨hn0, hn1, hn2, hnz, hb0, hbz, hp0, hp1, hp2, hpz⟩ := hSw
        first | (go_simp; done) | (go_simp; with_reducible rfl) | (go_simp; rw [IntKind.wrap_i64]; omega) | (go_simp; omega)
      simp only [Act.put, List.setIfInBounds_toArray, List.set_cons_zero, List.set_cons_succ]
      refine wpAnyH_ready (rs := [1]) (by kernel_rfl) (by simp) ?_
      refine (AllReadyH.cons rfl (fun KK hK => ?_) AllReadyH.nil)
      go_simp
      go_wp2_with (first | (go_at_call 54; refine (ids_any bs nb bc X Y K V _ hb HR4).mono ?_; rintro e v0_1 ⟨gi, rfl, hri, b_⟩))
      have HRi : Hid (RowI v0_1 (some ⟨gi, 0, none⟩) nb X) := hri
      have HC5 : Hid (GrC v0_1 gN gB gP p s n c t m d bs nb bc id pl vs kp vc) := HC4.out.below b_
      have HU5 : Hid (Blk v0_1 gU [.slice none 0 0]) := HU4.out.below b_
      have HX5 : Hid (Blk v0_1 gX [.slice (some ⟨b, 0, none⟩) nb nb]) := HX4.out.below b_
      have HPC5 : Hid (PcK b v0_1 nb nb X Y K V) := HPC4.out.below b_
      have HIA5 : Hid (InA b nb gX gU w1.heap.size v0_1) := HIA4.out.below b_ HPC4.out.1
      have HB5 : Hid (Below w.heap.size w v0_1) := HB4.out.trans (b_.mono HB4.out.size)
      clear hri b_ HC4 HU4 HX4 HPC4 HIA4 HB4 HR4
      refine hK.out _ _ (HC5.out) (fun hHeld => ?_)
      clear hK KK
      refine wpAnyH_ready (rs := [4]) (by kernel_rfl) (by simp) ?_
      refine (AllReadyH.cons rfl (fun KK hK => ?_) AllReadyH.nil)
      go_simp
      go_wp2_with (first | (go_at_call 53; refine (binSearch_any (some ⟨gi, 0, none⟩) nb nb X id _ (by omega) HRI HRi).mono ?_; rintro e w9 ⟨⟨k, f, rfl, hk, hlo, hhi, hf⟩, rfl⟩))
      have hkq := ins_one HIQ.out hk hlo hhi
      clear hk hlo hhi hf
      subst hkq
      clear HRi
      refine hK.out _ _ (HC5.out) (fun hHeld => ?_)
      clear hK KK
      refine wpAnyH_take (i := 5) (v := .tuple #[.int .i64 (k : Int), .bool f]) rfl (by kernel_rfl) (by kernel_rfl) (by kernel_rfl) (fun _ _ _ h => h) (Or.inl ⟨by kernel_rfl, ?_⟩) hHeld ?_
      · intro w' hSw
        obtain ⟨hn0, hn1, hn2, hnz, hb0, hbz, hp0, hp1, hp2, hpz⟩ := hSw
        first | (go_simp; done) | (go_simp; with_reducible rfl) | (go_simp; rw [IntKind.wrap_i64]; omega) | (go_simp; omega)
      simp only [Act.put, List.setIfInBounds_toArray, List.set_cons_zero, List.set_cons_succ]
      refine wpAnyH_take (i := 6) (v := .int .i64 (k : Int)) rfl (by kernel_rfl) (by kernel_rfl) (by kernel_rfl) (fun _ _ _ h => h) (Or.inl ⟨by kernel_rfl, ?_⟩) hHeld ?_
      · intro w' hSw
        obtain ⟨hn0, hn1, hn2, hnz, hb0, hbz, hp0, hp1, hp2, hpz⟩ := hSw
        first | (go_simp; done) | (go_simp; with_reducible rfl) | (go_simp; rw [IntKind.wrap_i64]; omega) | (go_simp; omega)
      simp only [Act.put, List.setIfInBounds_toArray, List.set_cons_zero, List.set_cons_succ]
      refine wpAnyH_take (i := 7) (v := .bool f) rfl (by kernel_rfl) (by kernel_rfl) (by kernel_rfl) (fun _ _ _ h => h) (Or.inl ⟨by kernel_rfl, ?_⟩) hHeld ?_
      · intro w' hSw
        obtain ⟨hn0, hn1, hn2, hnz, hb0, hbz, hp0, hp1, hp2, hpz⟩ := hSw
        first | (go_simp; done) | (go_simp; with_reducible rfl) | (go_simp; rw [IntKind.wrap_i64]; omega) | (go_simp; omega)
      simp only [Act.put, List.setIfInBounds_toArray, List.set_cons_zero, List.set_cons_succ]
      refine wpAnyH_take (i := 8) (v := .int .i64 (k : Int)) rfl (by kernel_rfl) (by kernel_rfl) (by kernel_rfl) (fun _ _ _ h => h) (Or.inl ⟨by kernel_rfl, ?_⟩) hHeld ?_
      · intro w' hSw
        obtain ⟨hn0, hn1, hn2, hnz, hb0, hbz, hp0, hp1, hp2, hpz⟩ := hSw
        first | (go_simp; done) | (go_simp; with_reducible rfl) | (go_simp; rw [IntKind.wrap_i64]; omega) | (go_simp; omega)
      simp only [Act.put, List.setIfInBounds_toArray, List.set_cons_zero, List.set_cons_succ]
      refine wpAnyH_ready (rs := [9]) (by kernel_rfl) (by simp) ?_
      refine AllReadyH.cons rfl (fun KK hK => ?_) AllReadyH.nil
      go_simp
      refine hK.out _ _ hHeld (fun hHeld => ?_)
      clear hK KK
      refine wpAnyH_done (by kernel_rfl) ?_ _
      clear hHeld
      obtain ⟨w6, hw6⟩ : ∃ z, z = w9 := ⟨_, rfl⟩
      rw [← hw6] at HC5 HU5 HX5 HPC5 HIA5 HB5 ⊢
      clear hw6
      have zw6 : w1.heap.size ≤ w6.heap.size := by have := HPC5.out.1; omega
      go_upto_region 6 with fail
      refine wp_region_held_drew (S := fun w' => GrC w' gN gB gP p s n c t m d bs nb bc id pl vs kp vc) (by kernel_rfl) ?_ (fun hHeld => ?_)
      · exact HC5.out
      obtain ⟨u0, hv0⟩ : ∃ z, z = w6.drew := ⟨_, rfl⟩
      try rw [← hv0] at hHeld
      rw [← hv0]
      have bv0 : Below w6.heap.size w6 u0 := by rw [hv0]; exact Below.drew (Below.refl _ _)
      clear hv0
      have HC6 : Hid (GrC u0 gN gB gP p s n c t m d bs nb bc id pl vs kp vc) := HC5.out.below bv0
      have HU6 : Hid (Blk u0 gU [.slice none 0 0]) := HU5.out.below bv0
      have HX6 : Hid (Blk u0 gX [.slice (some ⟨b, 0, none⟩) nb nb]) := HX5.out.below bv0
      have HPC6 : Hid (PcK b u0 nb nb X Y K V) := HPC5.out.below bv0
      have HIA6 : Hid (InA b nb gX gU w1.heap.size u0) := HIA5.out.below bv0 HPC5.out.1
      have HB6 : Hid (Below w.heap.size w u0) := HB5.out.trans (bv0.mono HB5.out.size)
      have HV6 : Hid (RowI u0 vs kp vp) := HV.out.below HB6.out
      have zw7 : w1.heap.size ≤ u0.heap.size := Nat.le_trans zw6 bv0.size
      clear bv0 HC5 HU5 HX5 HPC5 HIA5 HB5
      refine wpAnyH_take (i := 0) (v := .pointer (some ⟨gX, 0, none⟩)) rfl (by kernel_rfl) (by kernel_rfl) (by kernel_rfl) (fun _ _ _ h => h) (Or.inl ⟨by kernel_rfl, ?_⟩) hHeld ?_
      · intro w' hSw
        obtain ⟨hn0, hn1, hn2, hnz, hb0, hbz, hp0, hp1, hp2, hpz⟩ := hSw
        first | (go_simp; done) | (go_simp; with_reducible rfl) | (go_simp; rw [IntKind.wrap_i64]; omega) | (go_simp; omega)
      simp only [Act.put, List.setIfInBounds_toArray, List.set_cons_zero, List.set_cons_succ]
      refine wpAnyH_take (i := 2) (v := .int .i64 (k : Int)) rfl (by kernel_rfl) (by kernel_rfl) (by kernel_rfl) (fun _ _ _ h => h) (Or.inl ⟨by kernel_rfl, ?_⟩) hHeld ?_
      · intro w' hSw
        obtain ⟨hn0, hn1, hn2, hnz, hb0, hbz, hp0, hp1, hp2, hpz⟩ := hSw
        first | (go_simp; done) | (go_simp; with_reducible rfl) | (go_simp; rw [IntKind.wrap_i64]; omega) | (go_simp; omega)
      simp only [Act.put, List.setIfInBounds_toArray, List.set_cons_zero, List.set_cons_succ]
      refine wpAnyH_take (i := 3) (v := .agg #[.int .i64 id, .int .i64 pl, .slice vs kp vc]) rfl (by kernel_rfl) (by kernel_rfl) (by kernel_rfl) (fun _ _ _ h => h) (Or.inl ⟨by kernel_rfl, ?_⟩) hHeld ?_
      · intro w' hSw
        obtain ⟨hn0, hn1, hn2, hnz, hb0, hbz, hp0, hp1, hp2, hpz⟩ := hSw
        first | (go_simp; done) | (go_simp; with_reducible rfl) | (go_simp; rw [IntKind.wrap_i64]; omega) | (go_simp; omega)
      simp only [Act.put, List.setIfInBounds_toArray, List.set_cons_zero, List.set_cons_succ]
      refine wpAnyH_ready (rs := [1, 4]) (by kernel_rfl) (by simp) ?_
      refine (AllReadyH.cons rfl (fun KK hK => ?_) (AllReadyH.cons rfl (fun KK hK => ?_) AllReadyH.nil))
      · have hl_ := HX6.out.2.2 0 _ rfl
        have hg_ := HX6.out.1
        go_simp
        clear hl_ hg_
        refine hK.out _ _ (HC6.out) (fun hHeld => ?_)
        clear hK KK
        refine wpAnyH_ready (rs := [4]) (by kernel_rfl) (by simp) ?_
        refine (AllReadyH.cons rfl (fun KK hK => ?_) AllReadyH.nil)
        go_simp
        go_wp2_with (first | (go_at_call 56; refine (permitCopied_any id pl vs kp vc vp _ hkp HV6).mono ?_; rintro e u0_2 ⟨s9, c9, rfl, O_, b_⟩))
        obtain ⟨gk, hgk⟩ : ∃ gk, 0 < kp → s9 = some ⟨gk, 0, none⟩ ∧ u0.heap.size ≤ gk ∧ gk < u0_2.heap.size ∧ ∀ j, j < kp → u0_2.cell? ⟨gk, j, none⟩ = some (.int .i64 (vp j)) ∧ u0_2.frozen? ⟨gk, j, none⟩ = false := by
          rcases Nat.eq_zero_or_pos kp with z | z
          · exact ⟨0, fun y => by omega⟩
          · obtain ⟨g0, e0, a1, a2, _, _⟩ := O_ 0 z
            refine ⟨g0, fun _ => ⟨e0, a1, a2, fun j hj => ?_⟩⟩
            obtain ⟨g1, e1, _, _, b1, b2⟩ := O_ j hj
            rw [e0] at e1
            cases e1
            exact ⟨b1, b2⟩
        have HGK : Hid (0 < kp → s9 = some ⟨gk, 0, none⟩ ∧ gk < u0_2.heap.size ∧ (w.heap.size ≤ gk ∧ gk ≠ gX ∧ gk ≠ gU) ∧ ∀ j, j < kp → u0_2.cell? ⟨gk, j, none⟩ = some (.int .i64 (vp j)) ∧ u0_2.frozen? ⟨gk, j, none⟩ = false) := fun z => by
          obtain ⟨r1, r2, r3, r4⟩ := hgk z
          have := HX6.out.1
          have := HB6.out.size
          exact ⟨r1, r3, ⟨by omega, by omega, by omega⟩, r4⟩
        have HGN : Hid (∀ (i : Nat) (a : Addr) (k' c : Nat), i < nb → u0_2.cell? ⟨b, i * 3 + 2, none⟩ = some (.slice (some a) k' c) → 0 < k' → 0 < kp → a.block ≠ gk) := fun i a k' c_ hi hc hk hz => by
          have hc' : u0.cell? ⟨b, i * 3 + 2, none⟩ = some (.slice (some a) k' c_) := (b_.cell (p := ⟨b, i * 3 + 2, none⟩) HPC6.out.1).symm.trans hc
          have := HPC6.out.inner i a k' c_ hi hc' hk
          have := (hgk hz).2.1
          omega
        replace HC6 : Hid (GrC u0_2 gN gB gP p s n c t m d bs nb bc id pl vs kp vc) := HC6.out.below b_
        replace HU6 : Hid (Blk u0_2 gU [.slice none 0 0]) := HU6.out.below b_
        replace HX6 : Hid (Blk u0_2 gX [.slice (some ⟨b, 0, none⟩) nb nb]) := HX6.out.below b_
        replace HIA6 : Hid (InA b nb gX gU w1.heap.size u0_2) := HIA6.out.below b_ HPC6.out.1
        replace HPC6 : Hid (PcK b u0_2 nb nb X Y K V) := HPC6.out.below b_
        replace HB6 : Hid (Below w.heap.size w u0_2) := HB6.out.trans (b_.mono HB6.out.size)
        replace zw7 : w1.heap.size ≤ u0_2.heap.size := Nat.le_trans zw7 b_.size
        clear O_ b_ hgk HV6
        refine hK.out _ _ (HC6.out) (fun hHeld => ?_)
        clear hK KK
        refine wpAnyH_ready (rs := [5]) (by kernel_rfl) (by simp) ?_
        refine (AllReadyH.cons rfl (fun KK hK => ?_) AllReadyH.nil)
        go_simp
        obtain ⟨u0_3, hv_⟩ : ∃ z, z = u0_2.alloc (.cells #[.int .i64 id, .int .i64 pl, .slice s9 kp c9] 44) := ⟨_, rfl⟩
        rw [← hv_]
        obtain ⟨lb, hlb⟩ : ∃ z, z = u0_2.heap.size := ⟨_, rfl⟩
        have b_ : Below u0_2.heap.size u0_2 u0_3 := by rw [hv_]; exact below0 _ _
        have LB : Hid (u0_3.cell? ⟨lb, 0, none⟩ = some (.int .i64 id) ∧ u0_3.cell? ⟨lb, 1, none⟩ = some (.int .i64 pl) ∧ u0_3.cell? ⟨lb, 2, none⟩ = some (.slice s9 kp c9) ∧ lb < u0_3.heap.size) := by
          rw [hv_, hlb]
          exact ⟨by simp [go_sem], by simp [go_sem], by simp [go_sem], by simp⟩
        replace HGK : Hid (0 < kp → s9 = some ⟨gk, 0, none⟩ ∧ gk < u0_3.heap.size ∧ (w.heap.size ≤ gk ∧ gk ≠ gX ∧ gk ≠ gU) ∧ ∀ j, j < kp → u0_3.cell? ⟨gk, j, none⟩ = some (.int .i64 (vp j)) ∧ u0_3.frozen? ⟨gk, j, none⟩ = false) := fun z => by
          obtain ⟨r1, r2, r3, r4⟩ := HGK.out z
          exact ⟨r1, Nat.lt_of_lt_of_le r2 b_.size, r3, fun j hj => ⟨(b_.cell (p := ⟨gk, j, none⟩) r2).trans (r4 j hj).1, (b_.frozen (p := ⟨gk, j, none⟩) r2).trans (r4 j hj).2⟩⟩
        replace HGN : Hid (∀ (i : Nat) (a : Addr) (k' c : Nat), i < nb → u0_3.cell? ⟨b, i * 3 + 2, none⟩ = some (.slice (some a) k' c) → 0 < k' → 0 < kp → a.block ≠ gk) := fun i a k' c_ hi hc hk hz => HGN.out i a k' c_ hi ((b_.cell (p := ⟨b, i * 3 + 2, none⟩) HPC6.out.1).symm.trans hc) hk hz
        replace HC6 : Hid (GrC u0_3 gN gB gP p s n c t m d bs nb bc id pl vs kp vc) := HC6.out.below b_
        replace HU6 : Hid (Blk u0_3 gU [.slice none 0 0]) := HU6.out.below b_
        replace HX6 : Hid (Blk u0_3 gX [.slice (some ⟨b, 0, none⟩) nb nb]) := HX6.out.below b_
        replace HIA6 : Hid (InA b nb gX gU w1.heap.size u0_3) := HIA6.out.below b_ HPC6.out.1
        replace HPC6 : Hid (PcK b u0_3 nb nb X Y K V) := HPC6.out.below b_
        replace HB6 : Hid (Below w.heap.size w u0_3) := HB6.out.trans (b_.mono HB6.out.size)
        replace zw7 : w1.heap.size ≤ u0_3.heap.size := Nat.le_trans zw7 b_.size
        try rw [← hlb]
        clear hv_ b_ hlb
        refine hK.out _ _ (HC6.out) (fun hHeld => ?_)
        clear hK KK
        refine wpAnyH_ready (rs := [6]) (by kernel_rfl) (by simp) ?_
        refine (AllReadyH.cons rfl (fun KK hK => ?_) AllReadyH.nil)
        obtain ⟨AA, CC, hp_⟩ := HPC6.out.pick
        have HPP : Hid (∀ i, i < nb → u0_3.cell? ⟨b, i * 3, none⟩ = some (.int .i64 (X i)) ∧ u0_3.cell? ⟨b, i * 3 + 1, none⟩ = some (.int .i64 (Y i)) ∧ u0_3.cell? ⟨b, i * 3 + 2, none⟩ = some (.slice (AA i) (K i) (CC i))) := hp_
        have L0 : Hid (u0_3.cell? ⟨lb, 0, none⟩ = some (.int .i64 id)) := LB.out.1
        have L1 : Hid (u0_3.cell? ⟨lb, 1, none⟩ = some (.int .i64 pl)) := LB.out.2.1
        have L2 : Hid (u0_3.cell? ⟨lb, 2, none⟩ = some (.slice s9 kp c9)) := LB.out.2.2.1
        clear hp_
        go_simp
        go_wp2_with (first | (go_at_call 55; refine (insert_any b nb k lb (nb + 1) X Y K AA CC id pl s9 kp c9 _ (by omega) HIQ.out.1 rfl HPP HPC6.out.1 LB.out.2.2.2 L0 L1 L2).mono ?_; rintro e u0_4 ⟨g9, cap9, rfl, hins⟩))
        have b_ : Below u0_3.heap.size u0_3 u0_4 := hins.2.2.2.2
        have zg9 : u0_3.heap.size ≤ g9 := hins.1
        have HPE : Hid (PerR (fun z => w.heap.size ≤ z ∧ z < u0_4.heap.size ∧ z ≠ gX ∧ z ≠ gU) u0_4 (some ⟨g9, 0, none⟩) (nb + 1) (inF k id X) (inF k pl Y) (inF k kp K) (inF k vp V)) := ins_per HIQ.out.1 HPC6.out HPP.out (fun z => by
            obtain ⟨r1, r2, r3, r4⟩ := HGK.out z
            exact ⟨r1, r2, ⟨r3.1, Nat.lt_of_lt_of_le r2 b_.size, r3.2.1, r3.2.2⟩, r4⟩) (fun i a k' c_ hi hc hk => by
            have h1 := HIA6.out i a k' c_ hi hc hk
            have h2 := HPC6.out.inner i a k' c_ hi hc hk
            have h3 := b_.size
            exact ⟨⟨by omega, by omega, h1.1, h1.2.1⟩, HGN.out i a k' c_ hi hc hk⟩) (by
            have := HX6.out.1
            have := HU6.out.1
            have := hins.2.1
            exact ⟨by omega, by omega, by omega, by omega⟩) hins
        replace HC6 : Hid (GrC u0_4 gN gB gP p s n c t m d bs nb bc id pl vs kp vc) := HC6.out.below b_
        replace HU6 : Hid (Blk u0_4 gU [.slice none 0 0]) := HU6.out.below b_
        replace HX6 : Hid (Blk u0_4 gX [.slice (some ⟨b, 0, none⟩) nb nb]) := HX6.out.below b_
        replace HB6 : Hid (Below w.heap.size w u0_4) := HB6.out.trans (b_.mono HB6.out.size)
        clear hins b_ HPP L0 L1 L2 LB HGK HGN HPC6 HIA6
        refine hK.out _ _ (HC6.out) (fun hHeld => ?_)
        clear hK KK
        refine wpAnyH_take (i := 7) (v := .pointer (some ⟨gX, 0, none⟩)) rfl (by kernel_rfl) (by kernel_rfl) (by kernel_rfl) (fun _ _ _ h => h) (Or.inl ⟨by kernel_rfl, ?_⟩) hHeld ?_
        · intro w' hSw
          obtain ⟨hn0, hn1, hn2, hnz, hb0, hbz, hp0, hp1, hp2, hpz⟩ := hSw
          first | (go_simp; done) | (go_simp; with_reducible rfl) | (go_simp; rw [IntKind.wrap_i64]; omega) | (go_simp; omega)
        simp only [Act.put, List.setIfInBounds_toArray, List.set_cons_zero, List.set_cons_succ]
        refine wpAnyH_ready (rs := [8]) (by kernel_rfl) (by simp) ?_
        refine (AllReadyH.cons rfl (fun KK hK => ?_) AllReadyH.nil)
        have hl_ := HX6.out.2.2 0 _ rfl
        have hf_ := HX6.out.2.1 0
        have hg_ := HX6.out.1
        have hst := store_slT
        go_simp
        obtain ⟨u0_5, hv_⟩ : ∃ z, z = u0_4.setCell ⟨gX, 0, none⟩ (.slice (some ⟨g9, 0, none⟩) (nb + 1) cap9) := ⟨_, rfl⟩
        rw [← hv_]
        have bs_ : Beside gX u0_4 u0_5 := by rw [hv_]; exact Beside.setCell gX _ _ _
        have sz_ : u0_5.heap.size = u0_4.heap.size := by rw [hv_]; simp
        have HX7 : Hid (Blk u0_5 gX [.slice (some ⟨g9, 0, none⟩) (nb + 1) cap9]) := by rw [hv_]; exact HX6.out.set 0 _
        have HU7 : Hid (Blk u0_5 gU [.slice none 0 0]) := HU6.out.beside bs_ (by omega)
        have HPE7 : Hid (PerR (fun z => w.heap.size ≤ z ∧ z < u0_4.heap.size ∧ z ≠ gX ∧ z ≠ gU) u0_5 (some ⟨g9, 0, none⟩) (nb + 1) (inF k id X) (inF k pl Y) (inF k kp K) (inF k vp V)) := HPE.out.keep bs_.2.2.2.1 (fun z hz hl => bs_.2.2.2.2 z hl hz.2.2.1)
        have HC7 : Hid (GrC u0_5 gN gB gP p s n c t m d bs nb bc id pl vs kp vc) := HC6.out.beside bs_ (by omega) (by omega) (by omega)
        have HB7 : Hid (Below w.heap.size w u0_5) := HB6.out.trans (bs_.below (by omega) HB6.out.size)
        have zw8 : u0_4.heap.size ≤ u0_5.heap.size := bs_.2.2.2.1
        clear hv_ bs_ hl_ hf_ hg_ hst sz_
        refine hK.out _ _ (HC7.out) (fun hHeld => ?_)
        clear hK KK
        refine wpAnyH_done (by kernel_rfl) ?_ _
        clear hHeld
        have x0 := HX7.out.2.2 0 _ rfl
        have xz := HX7.out.1
        obtain ⟨zU, fU, cU⟩ := HU7.out
        have y0 := cU 0 _ rfl
        have yf := fU 0
        have hst := store_slT
        have bsU : Beside gU u0_5 (u0_5.setCell ⟨gU, 0, none⟩ (.slice (some ⟨g9, 0, none⟩) (nb + 1) cap9)) := Beside.setCell gU _ 0 _
        have HP8 := HPE7.out.keep (w' := u0_5.setCell ⟨gU, 0, none⟩ (.slice (some ⟨g9, 0, none⟩) (nb + 1) cap9)) bsU.2.2.2.1 (fun z hz hl => bsU.2.2.2.2 z hl hz.2.2.2)
        have HQ8 := Hid.mk' HP8
        have HW8 : Hid (Below w.heap.size w (u0_5.setCell ⟨gU, 0, none⟩ (.slice (some ⟨g9, 0, none⟩) (nb + 1) cap9))) := HB7.out.trans (bsU.below (by omega) HB7.out.size)
        have HZ8 : Hid (∀ z, z < u0_5.heap.size → z < (u0_5.setCell ⟨gU, 0, none⟩ (.slice (some ⟨g9, 0, none⟩) (nb + 1) cap9)).heap.size) := fun z hz => Nat.lt_of_lt_of_le hz bsU.2.2.2.1
        clear bsU cU fU HP8
        go_wp2
        refine bodyPost_ret (v := .tuple #[.agg #[.slice (some ⟨g9, 0, none⟩) (nb + 1) cap9], .int .i64 0]) (by simp [results, Try.results16, go_sem, y0]) rfl ?_
        refine GrAns.ok HOK.out HCD.out ?_
        exact ⟨_, cap9, _, rfl, fun z hz => ⟨hz.1, HZ8.out z (Nat.lt_of_lt_of_le hz.2.1 zw8)⟩, HQ8.out, HW8.out⟩
      · go_simp
        go_wp2_with (first | (go_at_call 56; refine (permitCopied_any id pl vs kp vc vp _ hkp HV6).mono ?_; rintro e u0_6 ⟨s9, c9, rfl, O_, b_⟩))
        obtain ⟨gk, hgk⟩ : ∃ gk, 0 < kp → s9 = some ⟨gk, 0, none⟩ ∧ u0.heap.size ≤ gk ∧ gk < u0_6.heap.size ∧ ∀ j, j < kp → u0_6.cell? ⟨gk, j, none⟩ = some (.int .i64 (vp j)) ∧ u0_6.frozen? ⟨gk, j, none⟩ = false := by
          rcases Nat.eq_zero_or_pos kp with z | z
          · exact ⟨0, fun y => by omega⟩
          · obtain ⟨g0, e0, a1, a2, _, _⟩ := O_ 0 z
            refine ⟨g0, fun _ => ⟨e0, a1, a2, fun j hj => ?_⟩⟩
            obtain ⟨g1, e1, _, _, b1, b2⟩ := O_ j hj
            rw [e0] at e1
            cases e1
            exact ⟨b1, b2⟩
        have HGK : Hid (0 < kp → s9 = some ⟨gk, 0, none⟩ ∧ gk < u0_6.heap.size ∧ (w.heap.size ≤ gk ∧ gk ≠ gX ∧ gk ≠ gU) ∧ ∀ j, j < kp → u0_6.cell? ⟨gk, j, none⟩ = some (.int .i64 (vp j)) ∧ u0_6.frozen? ⟨gk, j, none⟩ = false) := fun z => by
          obtain ⟨r1, r2, r3, r4⟩ := hgk z
          have := HX6.out.1
          have := HB6.out.size
          exact ⟨r1, r3, ⟨by omega, by omega, by omega⟩, r4⟩
        have HGN : Hid (∀ (i : Nat) (a : Addr) (k' c : Nat), i < nb → u0_6.cell? ⟨b, i * 3 + 2, none⟩ = some (.slice (some a) k' c) → 0 < k' → 0 < kp → a.block ≠ gk) := fun i a k' c_ hi hc hk hz => by
          have hc' : u0.cell? ⟨b, i * 3 + 2, none⟩ = some (.slice (some a) k' c_) := (b_.cell (p := ⟨b, i * 3 + 2, none⟩) HPC6.out.1).symm.trans hc
          have := HPC6.out.inner i a k' c_ hi hc' hk
          have := (hgk hz).2.1
          omega
        replace HC6 : Hid (GrC u0_6 gN gB gP p s n c t m d bs nb bc id pl vs kp vc) := HC6.out.below b_
        replace HU6 : Hid (Blk u0_6 gU [.slice none 0 0]) := HU6.out.below b_
        replace HX6 : Hid (Blk u0_6 gX [.slice (some ⟨b, 0, none⟩) nb nb]) := HX6.out.below b_
        replace HIA6 : Hid (InA b nb gX gU w1.heap.size u0_6) := HIA6.out.below b_ HPC6.out.1
        replace HPC6 : Hid (PcK b u0_6 nb nb X Y K V) := HPC6.out.below b_
        replace HB6 : Hid (Below w.heap.size w u0_6) := HB6.out.trans (b_.mono HB6.out.size)
        replace zw7 : w1.heap.size ≤ u0_6.heap.size := Nat.le_trans zw7 b_.size
        clear O_ b_ hgk HV6
        refine hK.out _ _ (HC6.out) (fun hHeld => ?_)
        clear hK KK
        refine wpAnyH_ready (rs := [1, 5]) (by kernel_rfl) (by simp) ?_
        refine (AllReadyH.cons rfl (fun KK hK => ?_) (AllReadyH.cons rfl (fun KK hK => ?_) AllReadyH.nil))
        · have hl_ := HX6.out.2.2 0 _ rfl
          have hg_ := HX6.out.1
          go_simp
          clear hl_ hg_
          refine hK.out _ _ (HC6.out) (fun hHeld => ?_)
          clear hK KK
          refine wpAnyH_ready (rs := [5]) (by kernel_rfl) (by simp) ?_
          refine (AllReadyH.cons rfl (fun KK hK => ?_) AllReadyH.nil)
          go_simp
          obtain ⟨u0_8, hv_⟩ : ∃ z, z = u0_6.alloc (.cells #[.int .i64 id, .int .i64 pl, .slice s9 kp c9] 44) := ⟨_, rfl⟩
          rw [← hv_]
          obtain ⟨lb, hlb⟩ : ∃ z, z = u0_6.heap.size := ⟨_, rfl⟩
          have b_ : Below u0_6.heap.size u0_6 u0_8 := by rw [hv_]; exact below0 _ _
          have LB : Hid (u0_8.cell? ⟨lb, 0, none⟩ = some (.int .i64 id) ∧ u0_8.cell? ⟨lb, 1, none⟩ = some (.int .i64 pl) ∧ u0_8.cell? ⟨lb, 2, none⟩ = some (.slice s9 kp c9) ∧ lb < u0_8.heap.size) := by
            rw [hv_, hlb]
            exact ⟨by simp [go_sem], by simp [go_sem], by simp [go_sem], by simp⟩
          replace HGK : Hid (0 < kp → s9 = some ⟨gk, 0, none⟩ ∧ gk < u0_8.heap.size ∧ (w.heap.size ≤ gk ∧ gk ≠ gX ∧ gk ≠ gU) ∧ ∀ j, j < kp → u0_8.cell? ⟨gk, j, none⟩ = some (.int .i64 (vp j)) ∧ u0_8.frozen? ⟨gk, j, none⟩ = false) := fun z => by
            obtain ⟨r1, r2, r3, r4⟩ := HGK.out z
            exact ⟨r1, Nat.lt_of_lt_of_le r2 b_.size, r3, fun j hj => ⟨(b_.cell (p := ⟨gk, j, none⟩) r2).trans (r4 j hj).1, (b_.frozen (p := ⟨gk, j, none⟩) r2).trans (r4 j hj).2⟩⟩
          replace HGN : Hid (∀ (i : Nat) (a : Addr) (k' c : Nat), i < nb → u0_8.cell? ⟨b, i * 3 + 2, none⟩ = some (.slice (some a) k' c) → 0 < k' → 0 < kp → a.block ≠ gk) := fun i a k' c_ hi hc hk hz => HGN.out i a k' c_ hi ((b_.cell (p := ⟨b, i * 3 + 2, none⟩) HPC6.out.1).symm.trans hc) hk hz
          replace HC6 : Hid (GrC u0_8 gN gB gP p s n c t m d bs nb bc id pl vs kp vc) := HC6.out.below b_
          replace HU6 : Hid (Blk u0_8 gU [.slice none 0 0]) := HU6.out.below b_
          replace HX6 : Hid (Blk u0_8 gX [.slice (some ⟨b, 0, none⟩) nb nb]) := HX6.out.below b_
          replace HIA6 : Hid (InA b nb gX gU w1.heap.size u0_8) := HIA6.out.below b_ HPC6.out.1
          replace HPC6 : Hid (PcK b u0_8 nb nb X Y K V) := HPC6.out.below b_
          replace HB6 : Hid (Below w.heap.size w u0_8) := HB6.out.trans (b_.mono HB6.out.size)
          replace zw7 : w1.heap.size ≤ u0_8.heap.size := Nat.le_trans zw7 b_.size
          try rw [← hlb]
          clear hv_ b_ hlb
          refine hK.out _ _ (HC6.out) (fun hHeld => ?_)
          clear hK KK
          refine wpAnyH_ready (rs := [6]) (by kernel_rfl) (by simp) ?_
          refine (AllReadyH.cons rfl (fun KK hK => ?_) AllReadyH.nil)
          obtain ⟨AA, CC, hp_⟩ := HPC6.out.pick
          have HPP : Hid (∀ i, i < nb → u0_8.cell? ⟨b, i * 3, none⟩ = some (.int .i64 (X i)) ∧ u0_8.cell? ⟨b, i * 3 + 1, none⟩ = some (.int .i64 (Y i)) ∧ u0_8.cell? ⟨b, i * 3 + 2, none⟩ = some (.slice (AA i) (K i) (CC i))) := hp_
          have L0 : Hid (u0_8.cell? ⟨lb, 0, none⟩ = some (.int .i64 id)) := LB.out.1
          have L1 : Hid (u0_8.cell? ⟨lb, 1, none⟩ = some (.int .i64 pl)) := LB.out.2.1
          have L2 : Hid (u0_8.cell? ⟨lb, 2, none⟩ = some (.slice s9 kp c9)) := LB.out.2.2.1
          clear hp_
          go_simp
          go_wp2_with (first | (go_at_call 55; refine (insert_any b nb k lb (nb + 1) X Y K AA CC id pl s9 kp c9 _ (by omega) HIQ.out.1 rfl HPP HPC6.out.1 LB.out.2.2.2 L0 L1 L2).mono ?_; rintro e u0_9 ⟨g9, cap9, rfl, hins⟩))
          have b_ : Below u0_8.heap.size u0_8 u0_9 := hins.2.2.2.2
          have zg9 : u0_8.heap.size ≤ g9 := hins.1
          have HPE : Hid (PerR (fun z => w.heap.size ≤ z ∧ z < u0_9.heap.size ∧ z ≠ gX ∧ z ≠ gU) u0_9 (some ⟨g9, 0, none⟩) (nb + 1) (inF k id X) (inF k pl Y) (inF k kp K) (inF k vp V)) := ins_per HIQ.out.1 HPC6.out HPP.out (fun z => by
              obtain ⟨r1, r2, r3, r4⟩ := HGK.out z
              exact ⟨r1, r2, ⟨r3.1, Nat.lt_of_lt_of_le r2 b_.size, r3.2.1, r3.2.2⟩, r4⟩) (fun i a k' c_ hi hc hk => by
              have h1 := HIA6.out i a k' c_ hi hc hk
              have h2 := HPC6.out.inner i a k' c_ hi hc hk
              have h3 := b_.size
              exact ⟨⟨by omega, by omega, h1.1, h1.2.1⟩, HGN.out i a k' c_ hi hc hk⟩) (by
              have := HX6.out.1
              have := HU6.out.1
              have := hins.2.1
              exact ⟨by omega, by omega, by omega, by omega⟩) hins
          replace HC6 : Hid (GrC u0_9 gN gB gP p s n c t m d bs nb bc id pl vs kp vc) := HC6.out.below b_
          replace HU6 : Hid (Blk u0_9 gU [.slice none 0 0]) := HU6.out.below b_
          replace HX6 : Hid (Blk u0_9 gX [.slice (some ⟨b, 0, none⟩) nb nb]) := HX6.out.below b_
          replace HB6 : Hid (Below w.heap.size w u0_9) := HB6.out.trans (b_.mono HB6.out.size)
          clear hins b_ HPP L0 L1 L2 LB HGK HGN HPC6 HIA6
          refine hK.out _ _ (HC6.out) (fun hHeld => ?_)
          clear hK KK
          refine wpAnyH_take (i := 7) (v := .pointer (some ⟨gX, 0, none⟩)) rfl (by kernel_rfl) (by kernel_rfl) (by kernel_rfl) (fun _ _ _ h => h) (Or.inl ⟨by kernel_rfl, ?_⟩) hHeld ?_
          · intro w' hSw
            obtain ⟨hn0, hn1, hn2, hnz, hb0, hbz, hp0, hp1, hp2, hpz⟩ := hSw
            first | (go_simp; done) | (go_simp; with_reducible rfl) | (go_simp; rw [IntKind.wrap_i64]; omega) | (go_simp; omega)
          simp only [Act.put, List.setIfInBounds_toArray, List.set_cons_zero, List.set_cons_succ]
          refine wpAnyH_ready (rs := [8]) (by kernel_rfl) (by simp) ?_
          refine (AllReadyH.cons rfl (fun KK hK => ?_) AllReadyH.nil)
          have hl_ := HX6.out.2.2 0 _ rfl
          have hf_ := HX6.out.2.1 0
          have hg_ := HX6.out.1
          have hst := store_slT
          go_simp
          obtain ⟨u0_10, hv_⟩ : ∃ z, z = u0_9.setCell ⟨gX, 0, none⟩ (.slice (some ⟨g9, 0, none⟩) (nb + 1) cap9) := ⟨_, rfl⟩
          rw [← hv_]
          have bs_ : Beside gX u0_9 u0_10 := by rw [hv_]; exact Beside.setCell gX _ _ _
          have sz_ : u0_10.heap.size = u0_9.heap.size := by rw [hv_]; simp
          have HX7 : Hid (Blk u0_10 gX [.slice (some ⟨g9, 0, none⟩) (nb + 1) cap9]) := by rw [hv_]; exact HX6.out.set 0 _
          have HU7 : Hid (Blk u0_10 gU [.slice none 0 0]) := HU6.out.beside bs_ (by omega)
          have HPE7 : Hid (PerR (fun z => w.heap.size ≤ z ∧ z < u0_9.heap.size ∧ z ≠ gX ∧ z ≠ gU) u0_10 (some ⟨g9, 0, none⟩) (nb + 1) (inF k id X) (inF k pl Y) (inF k kp K) (inF k vp V)) := HPE.out.keep bs_.2.2.2.1 (fun z hz hl => bs_.2.2.2.2 z hl hz.2.2.1)
          have HC7 : Hid (GrC u0_10 gN gB gP p s n c t m d bs nb bc id pl vs kp vc) := HC6.out.beside bs_ (by omega) (by omega) (by omega)
          have HB7 : Hid (Below w.heap.size w u0_10) := HB6.out.trans (bs_.below (by omega) HB6.out.size)
          have zw8 : u0_9.heap.size ≤ u0_10.heap.size := bs_.2.2.2.1
          clear hv_ bs_ hl_ hf_ hg_ hst sz_
          refine hK.out _ _ (HC7.out) (fun hHeld => ?_)
          clear hK KK
          refine wpAnyH_done (by kernel_rfl) ?_ _
          clear hHeld
          have x0 := HX7.out.2.2 0 _ rfl
          have xz := HX7.out.1
          obtain ⟨zU, fU, cU⟩ := HU7.out
          have y0 := cU 0 _ rfl
          have yf := fU 0
          have hst := store_slT
          have bsU : Beside gU u0_10 (u0_10.setCell ⟨gU, 0, none⟩ (.slice (some ⟨g9, 0, none⟩) (nb + 1) cap9)) := Beside.setCell gU _ 0 _
          have HP8 := HPE7.out.keep (w' := u0_10.setCell ⟨gU, 0, none⟩ (.slice (some ⟨g9, 0, none⟩) (nb + 1) cap9)) bsU.2.2.2.1 (fun z hz hl => bsU.2.2.2.2 z hl hz.2.2.2)
          have HQ8 := Hid.mk' HP8
          have HW8 : Hid (Below w.heap.size w (u0_10.setCell ⟨gU, 0, none⟩ (.slice (some ⟨g9, 0, none⟩) (nb + 1) cap9))) := HB7.out.trans (bsU.below (by omega) HB7.out.size)
          have HZ8 : Hid (∀ z, z < u0_10.heap.size → z < (u0_10.setCell ⟨gU, 0, none⟩ (.slice (some ⟨g9, 0, none⟩) (nb + 1) cap9)).heap.size) := fun z hz => Nat.lt_of_lt_of_le hz bsU.2.2.2.1
          clear bsU cU fU HP8
          go_wp2
          refine bodyPost_ret (v := .tuple #[.agg #[.slice (some ⟨g9, 0, none⟩) (nb + 1) cap9], .int .i64 0]) (by simp [results, Try.results16, go_sem, y0]) rfl ?_
          refine GrAns.ok HOK.out HCD.out ?_
          exact ⟨_, cap9, _, rfl, fun z hz => ⟨hz.1, HZ8.out z (Nat.lt_of_lt_of_le hz.2.1 zw8)⟩, HQ8.out, HW8.out⟩
        · go_simp
          obtain ⟨u0_11, hv_⟩ : ∃ z, z = u0_6.alloc (.cells #[.int .i64 id, .int .i64 pl, .slice s9 kp c9] 44) := ⟨_, rfl⟩
          rw [← hv_]
          obtain ⟨lb, hlb⟩ : ∃ z, z = u0_6.heap.size := ⟨_, rfl⟩
          have b_ : Below u0_6.heap.size u0_6 u0_11 := by rw [hv_]; exact below0 _ _
          have LB : Hid (u0_11.cell? ⟨lb, 0, none⟩ = some (.int .i64 id) ∧ u0_11.cell? ⟨lb, 1, none⟩ = some (.int .i64 pl) ∧ u0_11.cell? ⟨lb, 2, none⟩ = some (.slice s9 kp c9) ∧ lb < u0_11.heap.size) := by
            rw [hv_, hlb]
            exact ⟨by simp [go_sem], by simp [go_sem], by simp [go_sem], by simp⟩
          replace HGK : Hid (0 < kp → s9 = some ⟨gk, 0, none⟩ ∧ gk < u0_11.heap.size ∧ (w.heap.size ≤ gk ∧ gk ≠ gX ∧ gk ≠ gU) ∧ ∀ j, j < kp → u0_11.cell? ⟨gk, j, none⟩ = some (.int .i64 (vp j)) ∧ u0_11.frozen? ⟨gk, j, none⟩ = false) := fun z => by
            obtain ⟨r1, r2, r3, r4⟩ := HGK.out z
            exact ⟨r1, Nat.lt_of_lt_of_le r2 b_.size, r3, fun j hj => ⟨(b_.cell (p := ⟨gk, j, none⟩) r2).trans (r4 j hj).1, (b_.frozen (p := ⟨gk, j, none⟩) r2).trans (r4 j hj).2⟩⟩
          replace HGN : Hid (∀ (i : Nat) (a : Addr) (k' c : Nat), i < nb → u0_11.cell? ⟨b, i * 3 + 2, none⟩ = some (.slice (some a) k' c) → 0 < k' → 0 < kp → a.block ≠ gk) := fun i a k' c_ hi hc hk hz => HGN.out i a k' c_ hi ((b_.cell (p := ⟨b, i * 3 + 2, none⟩) HPC6.out.1).symm.trans hc) hk hz
          replace HC6 : Hid (GrC u0_11 gN gB gP p s n c t m d bs nb bc id pl vs kp vc) := HC6.out.below b_
          replace HU6 : Hid (Blk u0_11 gU [.slice none 0 0]) := HU6.out.below b_
          replace HX6 : Hid (Blk u0_11 gX [.slice (some ⟨b, 0, none⟩) nb nb]) := HX6.out.below b_
          replace HIA6 : Hid (InA b nb gX gU w1.heap.size u0_11) := HIA6.out.below b_ HPC6.out.1
          replace HPC6 : Hid (PcK b u0_11 nb nb X Y K V) := HPC6.out.below b_
          replace HB6 : Hid (Below w.heap.size w u0_11) := HB6.out.trans (b_.mono HB6.out.size)
          replace zw7 : w1.heap.size ≤ u0_11.heap.size := Nat.le_trans zw7 b_.size
          try rw [← hlb]
          clear hv_ b_ hlb
          refine hK.out _ _ (HC6.out) (fun hHeld => ?_)
          clear hK KK
          refine wpAnyH_ready (rs := [1]) (by kernel_rfl) (by simp) ?_
          refine (AllReadyH.cons rfl (fun KK hK => ?_) AllReadyH.nil)
          have hl_ := HX6.out.2.2 0 _ rfl
          have hg_ := HX6.out.1
          go_simp
          clear hl_ hg_
          refine hK.out _ _ (HC6.out) (fun hHeld => ?_)
          clear hK KK
          refine wpAnyH_ready (rs := [6]) (by kernel_rfl) (by simp) ?_
          refine (AllReadyH.cons rfl (fun KK hK => ?_) AllReadyH.nil)
          obtain ⟨AA, CC, hp_⟩ := HPC6.out.pick
          have HPP : Hid (∀ i, i < nb → u0_11.cell? ⟨b, i * 3, none⟩ = some (.int .i64 (X i)) ∧ u0_11.cell? ⟨b, i * 3 + 1, none⟩ = some (.int .i64 (Y i)) ∧ u0_11.cell? ⟨b, i * 3 + 2, none⟩ = some (.slice (AA i) (K i) (CC i))) := hp_
          have L0 : Hid (u0_11.cell? ⟨lb, 0, none⟩ = some (.int .i64 id)) := LB.out.1
          have L1 : Hid (u0_11.cell? ⟨lb, 1, none⟩ = some (.int .i64 pl)) := LB.out.2.1
          have L2 : Hid (u0_11.cell? ⟨lb, 2, none⟩ = some (.slice s9 kp c9)) := LB.out.2.2.1
          clear hp_
          go_simp
          go_wp2_with (first | (go_at_call 55; refine (insert_any b nb k lb (nb + 1) X Y K AA CC id pl s9 kp c9 _ (by omega) HIQ.out.1 rfl HPP HPC6.out.1 LB.out.2.2.2 L0 L1 L2).mono ?_; rintro e u0_13 ⟨g9, cap9, rfl, hins⟩))
          have b_ : Below u0_11.heap.size u0_11 u0_13 := hins.2.2.2.2
          have zg9 : u0_11.heap.size ≤ g9 := hins.1
          have HPE : Hid (PerR (fun z => w.heap.size ≤ z ∧ z < u0_13.heap.size ∧ z ≠ gX ∧ z ≠ gU) u0_13 (some ⟨g9, 0, none⟩) (nb + 1) (inF k id X) (inF k pl Y) (inF k kp K) (inF k vp V)) := ins_per HIQ.out.1 HPC6.out HPP.out (fun z => by
              obtain ⟨r1, r2, r3, r4⟩ := HGK.out z
              exact ⟨r1, r2, ⟨r3.1, Nat.lt_of_lt_of_le r2 b_.size, r3.2.1, r3.2.2⟩, r4⟩) (fun i a k' c_ hi hc hk => by
              have h1 := HIA6.out i a k' c_ hi hc hk
              have h2 := HPC6.out.inner i a k' c_ hi hc hk
              have h3 := b_.size
              exact ⟨⟨by omega, by omega, h1.1, h1.2.1⟩, HGN.out i a k' c_ hi hc hk⟩) (by
              have := HX6.out.1
              have := HU6.out.1
              have := hins.2.1
              exact ⟨by omega, by omega, by omega, by omega⟩) hins
          replace HC6 : Hid (GrC u0_13 gN gB gP p s n c t m d bs nb bc id pl vs kp vc) := HC6.out.below b_
          replace HU6 : Hid (Blk u0_13 gU [.slice none 0 0]) := HU6.out.below b_
          replace HX6 : Hid (Blk u0_13 gX [.slice (some ⟨b, 0, none⟩) nb nb]) := HX6.out.below b_
          replace HB6 : Hid (Below w.heap.size w u0_13) := HB6.out.trans (b_.mono HB6.out.size)
          clear hins b_ HPP L0 L1 L2 LB HGK HGN HPC6 HIA6
          refine hK.out _ _ (HC6.out) (fun hHeld => ?_)
          clear hK KK
          refine wpAnyH_take (i := 7) (v := .pointer (some ⟨gX, 0, none⟩)) rfl (by kernel_rfl) (by kernel_rfl) (by kernel_rfl) (fun _ _ _ h => h) (Or.inl ⟨by kernel_rfl, ?_⟩) hHeld ?_
          · intro w' hSw
            obtain ⟨hn0, hn1, hn2, hnz, hb0, hbz, hp0, hp1, hp2, hpz⟩ := hSw
            first | (go_simp; done) | (go_simp; with_reducible rfl) | (go_simp; rw [IntKind.wrap_i64]; omega) | (go_simp; omega)
          simp only [Act.put, List.setIfInBounds_toArray, List.set_cons_zero, List.set_cons_succ]
          refine wpAnyH_ready (rs := [8]) (by kernel_rfl) (by simp) ?_
          refine (AllReadyH.cons rfl (fun KK hK => ?_) AllReadyH.nil)
          have hl_ := HX6.out.2.2 0 _ rfl
          have hf_ := HX6.out.2.1 0
          have hg_ := HX6.out.1
          have hst := store_slT
          go_simp
          obtain ⟨u0_14, hv_⟩ : ∃ z, z = u0_13.setCell ⟨gX, 0, none⟩ (.slice (some ⟨g9, 0, none⟩) (nb + 1) cap9) := ⟨_, rfl⟩
          rw [← hv_]
          have bs_ : Beside gX u0_13 u0_14 := by rw [hv_]; exact Beside.setCell gX _ _ _
          have sz_ : u0_14.heap.size = u0_13.heap.size := by rw [hv_]; simp
          have HX7 : Hid (Blk u0_14 gX [.slice (some ⟨g9, 0, none⟩) (nb + 1) cap9]) := by rw [hv_]; exact HX6.out.set 0 _
          have HU7 : Hid (Blk u0_14 gU [.slice none 0 0]) := HU6.out.beside bs_ (by omega)
          have HPE7 : Hid (PerR (fun z => w.heap.size ≤ z ∧ z < u0_13.heap.size ∧ z ≠ gX ∧ z ≠ gU) u0_14 (some ⟨g9, 0, none⟩) (nb + 1) (inF k id X) (inF k pl Y) (inF k kp K) (inF k vp V)) := HPE.out.keep bs_.2.2.2.1 (fun z hz hl => bs_.2.2.2.2 z hl hz.2.2.1)
          have HC7 : Hid (GrC u0_14 gN gB gP p s n c t m d bs nb bc id pl vs kp vc) := HC6.out.beside bs_ (by omega) (by omega) (by omega)
          have HB7 : Hid (Below w.heap.size w u0_14) := HB6.out.trans (bs_.below (by omega) HB6.out.size)
          have zw8 : u0_13.heap.size ≤ u0_14.heap.size := bs_.2.2.2.1
          clear hv_ bs_ hl_ hf_ hg_ hst sz_
          refine hK.out _ _ (HC7.out) (fun hHeld => ?_)
          clear hK KK
          refine wpAnyH_done (by kernel_rfl) ?_ _
          clear hHeld
          have x0 := HX7.out.2.2 0 _ rfl
          have xz := HX7.out.1
          obtain ⟨zU, fU, cU⟩ := HU7.out
          have y0 := cU 0 _ rfl
          have yf := fU 0
          have hst := store_slT
          have bsU : Beside gU u0_14 (u0_14.setCell ⟨gU, 0, none⟩ (.slice (some ⟨g9, 0, none⟩) (nb + 1) cap9)) := Beside.setCell gU _ 0 _
          have HP8 := HPE7.out.keep (w' := u0_14.setCell ⟨gU, 0, none⟩ (.slice (some ⟨g9, 0, none⟩) (nb + 1) cap9)) bsU.2.2.2.1 (fun z hz hl => bsU.2.2.2.2 z hl hz.2.2.2)
          have HQ8 := Hid.mk' HP8
          have HW8 : Hid (Below w.heap.size w (u0_14.setCell ⟨gU, 0, none⟩ (.slice (some ⟨g9, 0, none⟩) (nb + 1) cap9))) := HB7.out.trans (bsU.below (by omega) HB7.out.size)
          have HZ8 : Hid (∀ z, z < u0_14.heap.size → z < (u0_14.setCell ⟨gU, 0, none⟩ (.slice (some ⟨g9, 0, none⟩) (nb + 1) cap9)).heap.size) := fun z hz => Nat.lt_of_lt_of_le hz bsU.2.2.2.1
          clear bsU cU fU HP8
          go_wp2
          refine bodyPost_ret (v := .tuple #[.agg #[.slice (some ⟨g9, 0, none⟩) (nb + 1) cap9], .int .i64 0]) (by simp [results, Try.results16, go_sem, y0]) rfl ?_
          refine GrAns.ok HOK.out HCD.out ?_
          exact ⟨_, cap9, _, rfl, fun z hz => ⟨hz.1, HZ8.out z (Nat.lt_of_lt_of_le hz.2.1 zw8)⟩, HQ8.out, HW8.out⟩
end Go.Proofs.Ytikcfpjfcpbfcaa
