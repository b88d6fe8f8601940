/-
What is proved: spec.Grant.
-/
import Derived.Test.YtikcfpjfcpbfcaaGrIz
import Derived.Test.YtikcfpjfcpbfcaaZcI
import Derived.Test.YtikcfpjfcpbfcaaBoSz
import Derived.BigQuiet
import Derived.Deep.DeepCutAuto
import Derived.Deep.RegionHeldLaw
namespace Go.Proofs.Ytikcfpjfcpbfcaa
set_option maxRecDepth 40000
open Go.ChangeShapes Go.WideShapes Go.ChangeAt Go.RowKit
set_option linter.unusedVariables false
set_option linter.unusedSimpArgs false

def GrPostK (w : World) (nr : Nat) (X Y : Nat → Int) (K : Nat → Nat) (V : Nat → Nat → Int) (cd : Int) (e : Ending) (w' : World) : Prop := ∃ (s : Option Addr) (c : Nat), e = .returned (.tuple #[.agg #[.slice s nr c], .int .i64 cd]) ∧ PtKc w.heap.size w' (.slice s nr c) nr X Y K V ∧ Below w.heap.size w w'
def GrAnsK (p : Int) (n : Nat) (D : Nat → Int × Int) (m : Nat) (S : Nat → Int) (nb : Nat) (X Y : Nat → Int) (K : Nat → Nat) (V : Nat → Nat → Int) (id pl : Int) (kp : Nat) (vp : Nat → Int) (q : Nat) (w : World) (e : Ending) (w' : World) : Prop := if bokB p n D m S nb X Y K V = true then (if refV p n D m S nb X Y id pl kp vp = 0 then GrPostK w (nb + 1) (inF q id X) (inF q pl Y) (inF q kp K) (inF q vp V) 0 e w' else GrPostK w nb X Y K V (refV p n D m S nb X Y id pl kp vp) e w') else GrPostK w 0 X Y K V 1 e w'
theorem GrAnsK.bad {p : Int} {n : Nat} {D : Nat → Int × Int} {m : Nat} {S : Nat → Int} {nb : Nat} {X Y : Nat → Int} {K : Nat → Nat} {V : Nat → Nat → Int} {id pl : Int} {kp : Nat} {vp : Nat → Int} {q : Nat} {w : World} {e : Ending} {w' : World} (h : bokB p n D m S nb X Y K V = false) (g : GrPostK w 0 X Y K V 1 e w') : GrAnsK p n D m S nb X Y K V id pl kp vp q w e w' := by unfold GrAnsK; rw [h]; exact g
theorem GrAnsK.no {p : Int} {n : Nat} {D : Nat → Int × Int} {m : Nat} {S : Nat → Int} {nb : Nat} {X Y : Nat → Int} {K : Nat → Nat} {V : Nat → Nat → Int} {id pl : Int} {kp : Nat} {vp : Nat → Int} {q : Nat} {w : World} {e : Ending} {w' : World} {cd : Int} (h : bokB p n D m S nb X Y K V = true) (hr : refV p n D m S nb X Y id pl kp vp = cd) (hc : cd ≠ 0) (g : GrPostK w nb X Y K V cd e w') : GrAnsK p n D m S nb X Y K V id pl kp vp q w e w' := by unfold GrAnsK; rw [if_pos h, hr, if_neg hc]; exact g
theorem GrAnsK.ok {p : Int} {n : Nat} {D : Nat → Int × Int} {m : Nat} {S : Nat → Int} {nb : Nat} {X Y : Nat → Int} {K : Nat → Nat} {V : Nat → Nat → Int} {id pl : Int} {kp : Nat} {vp : Nat → Int} {q : Nat} {w : World} {e : Ending} {w' : World} (h : bokB p n D m S nb X Y K V = true) (hr : refV p n D m S nb X Y id pl kp vp = 0) (g : GrPostK w (nb + 1) (inF q id X) (inF q pl Y) (inF q kp K) (inF q vp V) 0 e w') : GrAnsK p n D m S nb X Y K V id pl kp vp q w e w' := by unfold GrAnsK; rw [if_pos h, if_pos hr]; exact g
def ArgT (_ : World) : Prop := True
theorem GrC.belowB {w : World} {gN gB gP : Nat} {p : Int} {s : Option Addr} {n c : Nat} {t : Option Addr} {m d : Nat} {bs : Option Addr} {nb bc : Nat} {id pl : Int} {vs : Option Addr} {kp vc : Nat} {w' : World} {B : Nat} (h : GrC w gN gB gP p s n c t m d bs nb bc id pl vs kp vc) (hb : Below B w w') (r1 : gN < B) (r2 : gB < B) (r3 : gP < B) : GrC w' gN gB gP p s n c t m d bs nb bc id pl vs kp vc := by
  obtain ⟨h1, h2, h3, h4, h5, h6, h7, h8, h9, h10⟩ := h
  exact ⟨(hb.cell (p := ⟨gN, 0, none⟩) r1).trans h1, (hb.cell (p := ⟨gN, 1, none⟩) r1).trans h2, (hb.cell (p := ⟨gN, 2, none⟩) r1).trans h3, Nat.lt_of_lt_of_le h4 hb.size, (hb.cell (p := ⟨gB, 0, none⟩) r2).trans h5, Nat.lt_of_lt_of_le h6 hb.size, (hb.cell (p := ⟨gP, 0, none⟩) r3).trans h7, (hb.cell (p := ⟨gP, 1, none⟩) r3).trans h8, (hb.cell (p := ⟨gP, 2, none⟩) r3).trans h9, Nat.lt_of_lt_of_le h10 hb.size⟩
theorem ref2 {p : Int} {n : Nat} {D : Nat → Int × Int} {m : Nat} {S : Nat → Int} {nb : Nat} {X Y : Nat → Int} {id pl : Int} {k : Nat} {v : Nat → Int} (h1 : fmB p n id pl k v = false) : refV p n D m S nb X Y id pl k v = 2 := by unfold refV; rw [h1]; rfl
theorem ref3 {p : Int} {n : Nat} {D : Nat → Int × Int} {m : Nat} {S : Nat → Int} {nb : Nat} {X Y : Nat → Int} {id pl : Int} {k : Nat} {v : Nat → Int} (h1 : fmB p n id pl k v = true) (h2 : hasB X nb id = true) : refV p n D m S nb X Y id pl k v = 3 := by unfold refV; rw [if_pos h1, if_pos h2]
theorem ref4 {p : Int} {n : Nat} {D : Nat → Int × Int} {m : Nat} {S : Nat → Int} {nb : Nat} {X Y : Nat → Int} {id pl : Int} {k : Nat} {v : Nat → Int} (h1 : fmB p n id pl k v = true) (h2 : hasB X nb id = false) (h3 : freeB Y nb pl = false) : refV p n D m S nb X Y id pl k v = 4 := by unfold refV; rw [if_pos h1, h2, h3]; rfl
theorem ref5 {p : Int} {n : Nat} {D : Nat → Int × Int} {m : Nat} {S : Nat → Int} {nb : Nat} {X Y : Nat → Int} {id pl : Int} {k : Nat} {v : Nat → Int} (h1 : fmB p n id pl k v = true) (h2 : hasB X nb id = false) (h3 : freeB Y nb pl = true) (h4 : cutB p n D m S k v pl = false) : refV p n D m S nb X Y id pl k v = 5 := by unfold refV; rw [if_pos h1, h2, if_pos h3, h4]; rfl
theorem ref6 {p : Int} {n : Nat} {D : Nat → Int × Int} {m : Nat} {S : Nat → Int} {nb : Nat} {X Y : Nat → Int} {id pl : Int} {k : Nat} {v : Nat → Int} (h1 : fmB p n id pl k v = true) (h2 : hasB X nb id = false) (h3 : freeB Y nb pl = true) (h4 : cutB p n D m S k v pl = true) (h5 : 20 ≤ nb) : refV p n D m S nb X Y id pl k v = 6 := by unfold refV; rw [if_pos h1, h2, if_pos h3, if_pos h4, if_pos h5]; rfl
theorem ref0 {p : Int} {n : Nat} {D : Nat → Int × Int} {m : Nat} {S : Nat → Int} {nb : Nat} {X Y : Nat → Int} {id pl : Int} {k : Nat} {v : Nat → Int} (h1 : fmB p n id pl k v = true) (h2 : hasB X nb id = false) (h3 : freeB Y nb pl = true) (h4 : cutB p n D m S k v pl = true) (h5 : ¬ 20 ≤ nb) : refV p n D m S nb X Y id pl k v = 0 := by unfold refV; rw [if_pos h1, h2, if_pos h3, if_pos h4, if_neg h5]; rfl
theorem free_step {Y : Nat → Int} {k : Nat} {pl : Int} : freeB Y (k + 1) pl = (freeB Y k pl && !(Y k == pl)) := by
  unfold freeB
  by_cases h : Y k = pl
  · have e : ¬ ∀ j, j < k + 1 → Y j ≠ pl := fun z => z k (by omega) h
    rw [decide_eq_false e]
    simp [h]
  · by_cases g : ∀ j, j < k → Y j ≠ pl
    · have e : ∀ j, j < k + 1 → Y j ≠ pl := fun j hj => by
        by_cases y : j = k
        · subst y; exact h
        · exact g j (by omega)
      rw [decide_eq_true e, decide_eq_true g]
      simp [h]
    · have e : ¬ ∀ j, j < k + 1 → Y j ≠ pl := fun z => g fun j hj => z j (by omega)
      rw [decide_eq_false e, decide_eq_false g]
      simp
theorem free_not {Y : Nat → Int} {k : Nat} {pl : Int} (h : false = !freeB Y k pl) : freeB Y k pl = true := by cases e : freeB Y k pl; (· rw [e] at h; cases h); rfl
theorem free_has {Y : Nat → Int} {k : Nat} {pl : Int} (h : true = !freeB Y k pl) : freeB Y k pl = false := by cases e : freeB Y k pl; rfl; (· rw [e] at h; cases h)
theorem has_no {X : Nat → Int} {nb : Nat} {id : Int} (h : ∀ j, j < nb → X j ≠ id) : hasB X nb id = false := decide_eq_false fun ⟨j, a, b⟩ => h j a b
theorem has_at {X : Nat → Int} {nb k : Nat} {id : Int} (hk : k < nb) (h : X k = id) : hasB X nb id = true := decide_eq_true ⟨k, hk, h⟩
theorem list_PermitT {ops : Array Oper} {rest : List Oper} {o : Oper} {a : Act} {Q : Exit → Act → World → Prop} {W w0 : World} {tt : TypeId} {s0 : Option Addr} {c0 kk : Nat} {x y : Int} (base : Nat) (v : Value) (n : Nat) (X Y : Nat → Int) (K : Nat → Nat) (V : Nat → Nat → Int) (s z : Operand) (hgd : o.guard = none)
    (ho : o.op = .call { callee := .builtin .append, args := #[s, z], argTypes := #[34, 34] }) (hs : a.eval s = v) (hx : a.eval z = .slice (some ⟨W.heap.size, 0, none⟩) 1 1) (hown : PtS base w0 W v n X Y K V)
    (hX : X n = x) (hY : Y n = y) (hK : K n = kk) (hL : RowI w0 s0 kk (V n)) (hk : n ≤ 100000) (hb : base ≤ W.heap.size)
    (h : ∀ g cap w', PtS base w0 w' (.slice (some ⟨g, 0, none⟩) (n + 1) cap) (n + 1) X Y K V → Below base W w' → wpList Try.prog ops Q rest (a.put o.dst (.slice (some ⟨g, 0, none⟩) (n + 1) cap)) w') :
    wpList Try.prog ops Q (o :: rest) a (W.alloc (.cells #[.int .i64 x, .int .i64 y, .slice s0 kk c0] tt)) := by
  subst hX hY hK
  exact list_PermitS base v n X Y K V s z hgd ho hs hx hown hL hk hb h
set_option maxRecDepth 20000 in
set_option maxHeartbeats 8000000 in
theorem specGrantK_any (p : Int) (s : Option Addr) (n c : Nat) (D : Nat → Int × Int) (t : Option Addr) (m d : Nat) (S : Nat → Int) (bs : Option Addr) (nb bc : Nat) (X Y : Nat → Int) (K : Nat → Nat) (V : Nat → Nat → Int) (id pl : Int) (vs : Option Addr) (kp vc : Nat) (vp : Nat → Int) (q : Nat) (w : World) (hn : (n : Int) ≤ 1048576) (hm : (m : Int) ≤ 1048576) (HD : Hid (RowDuct w s n D)) (HS : Hid (RowI w t m S)) (hb : (nb : Int) ≤ 1048576) (hKs : Hid (∀ i, i < nb → (K i : Int) ≤ 1048576)) (HB : Hid (RowPer w bs nb X Y K V)) (hkp : (kp : Int) ≤ 1048576) (HV : Hid (RowI w vs kp vp)) (HQ : Hid (bokB p n D m S nb X Y K V = true → refV p n D m S nb X Y id pl kp vp = 0 → InsAt nb X id q)) :
    Calls Try.prog 12 #[.agg #[.int .i64 p, .slice s n c, .slice t m d], .agg #[.slice bs nb bc], .agg #[.int .i64 id, .int .i64 pl, .slice vs kp vc]] w fun e w' => GrAnsK p n D m S nb X Y K V id pl kp vp q w e w' := by
  go_enter Try.func12, Try.ntmps12
  go_upto_region 1 with fail
  obtain ⟨wa, hwa⟩ : ∃ z, z = w.alloc (.cells #[.int .i64 p, .slice s n c, .slice t m d] 41) := ⟨_, rfl⟩
  obtain ⟨wb, hwb⟩ : ∃ z, z = wa.alloc (.cells #[.slice bs nb bc] 36) := ⟨_, rfl⟩
  obtain ⟨wc, hwc⟩ : ∃ z, z = wb.alloc (.cells #[.int .i64 id, .int .i64 pl, .slice vs kp vc] 44) := ⟨_, rfl⟩
  obtain ⟨wd, hwd⟩ : ∃ z, z = wc.alloc (.cells #[.slice none 0 0] 36) := ⟨_, rfl⟩
  have ba : Below w.heap.size w wa := by rw [hwa]; exact below0 _ _
  have bb : Below wa.heap.size wa wb := by rw [hwb]; exact below0 _ _
  have bc_ : Below wb.heap.size wb wc := by rw [hwc]; exact below0 _ _
  have bd : Below wc.heap.size wc wd := by rw [hwd]; exact below0 _ _
  obtain ⟨gN, hgN⟩ : ∃ z, z = w.heap.size := ⟨_, rfl⟩
  obtain ⟨gB, hgB⟩ : ∃ z, z = wa.heap.size := ⟨_, rfl⟩
  obtain ⟨gP, hgP⟩ : ∃ z, z = wb.heap.size := ⟨_, rfl⟩
  obtain ⟨gU, hgU⟩ : ∃ z, z = wc.heap.size := ⟨_, rfl⟩
  have sa : wa.heap.size = w.heap.size + 1 := by rw [hwa]; simp
  have sb : wb.heap.size = w.heap.size + 1 + 1 := by rw [hwb]; simp; omega
  have sc : wc.heap.size = w.heap.size + 1 + 1 + 1 := by rw [hwc]; simp; omega
  have sd : wd.heap.size = w.heap.size + 4 := by rw [hwd]; simp; omega
  have hgB1 : w.heap.size + 1 = gB := by omega
  have hgP1 : w.heap.size + 1 + 1 = gP := by omega
  have hgU1 : w.heap.size + 1 + 1 + 1 = gU := by omega
  have HN : Hid (Blk wd gN [.int .i64 p, .slice s n c, .slice t m d]) := by rw [hgN]; exact (((by rw [hwa]; exact Blk.new w #[.int .i64 p, .slice s n c, .slice t m d] _ : Blk wa w.heap.size [.int .i64 p, .slice s n c, .slice t m d]).below bb).below bc_).below bd
  have HBk : Hid (Blk wd gB [.slice bs nb bc]) := by rw [hgB]; exact ((by rw [hwb]; exact Blk.new wa #[.slice bs nb bc] _ : Blk wb wa.heap.size [.slice bs nb bc]).below bc_).below bd
  have HP : Hid (Blk wd gP [.int .i64 id, .int .i64 pl, .slice vs kp vc]) := by rw [hgP]; exact (by rw [hwc]; exact Blk.new wb #[.int .i64 id, .int .i64 pl, .slice vs kp vc] _ : Blk wc wb.heap.size [.int .i64 id, .int .i64 pl, .slice vs kp vc]).below bd
  have HU : Hid (Blk wd gU [.slice none 0 0]) := by rw [hgU, hwd]; exact Blk.new wc #[.slice none 0 0] _
  have HBd : Hid (Below w.heap.size w wd) := ba.trans ((bb.trans ((bc_.trans (bd.mono bc_.size)).mono bb.size)).mono ba.size)
  have zz : w.heap.size ≤ gN ∧ gN < gB ∧ gB < gP ∧ gP < gU ∧ gU < wd.heap.size := by omega
  try rw [← hwa]
  try rw [← hwb]
  try rw [← hwc]
  try rw [← hwd]
  try rw [hgU1]
  try rw [hgP1]
  try rw [hgB1]
  try rw [← hgU]
  try rw [← hgP]
  try rw [← hgB]
  try rw [← hgN]
  clear hwa hwb hwc hwd ba bb bc_ bd hgN hgB hgP hgU sa sb sc sd hgB1 hgP1 hgU1
  obtain ⟨z1, z2, z3, z4, z5⟩ := zz
  have HDd : Hid (RowDuct wd s n D) := HD.out.below HBd.out
  have HSd : Hid (RowI wd t m S) := HS.out.below HBd.out
  have HPd : Hid (RowPer wd bs nb X Y K V) := HB.out.below HBd.out
  obtain ⟨zN, -, cN⟩ := HN.out
  have n0 := cN 0 _ rfl
  have n1 := cN 1 _ rfl
  have n2 := cN 2 _ rfl
  obtain ⟨zB, -, cB⟩ := HBk.out
  have b0 := cB 0 _ rfl
  clear cN cB
  go_wp2_with fail
  refine (specBookOk_any p s n c D t m d S bs nb bc X Y K V _ hn hm HDd HSd hKs HPd).mono ?_
  rintro e w1 ⟨rfl, h1⟩
  clear n0 n1 n2 zN zB b0
  replace HN : Hid (Blk w1 gN [.int .i64 p, .slice s n c, .slice t m d]) := HN.out.below h1
  replace HBk : Hid (Blk w1 gB [.slice bs nb bc]) := HBk.out.below h1
  replace HP : Hid (Blk w1 gP [.int .i64 id, .int .i64 pl, .slice vs kp vc]) := HP.out.below h1
  replace HU : Hid (Blk w1 gU [.slice none 0 0]) := HU.out.below h1
  have HB1 : Hid (Below w.heap.size w w1) := HBd.out.trans (h1.mono HBd.out.size)
  clear h1 HDd HSd HPd HBd z5
  have hst := store_slT
  obtain ⟨ok, hok⟩ : ∃ ok, bokB p n D m S nb X Y K V = ok := ⟨_, rfl⟩
  have HOK : Hid (bokB p n D m S nb X Y K V = ok) := hok
  rw [hok]
  clear hok
  cases ok
  case false =>
    obtain ⟨zU, fU, cU⟩ := HU.out
    have u0 := cU 0 _ rfl
    have uf := fU 0
    clear fU cU
    have HBu : Hid (Below w.heap.size w (w1.setCell ⟨gU, 0, none⟩ (.slice none 0 0))) := HB1.out.trans ((Beside.setCell gU w1 0 _).below (by omega) HB1.out.size)
    go_wp2
    refine bodyPost_ret (v := .tuple #[.agg #[.slice none 0 0], .int .i64 1]) (by simp [results, Try.results12, go_sem, u0]) rfl ?_
    refine GrAnsK.bad HOK.out ?_
    exact ⟨none, 0, rfl, PtKc.nil _ _ _ _ _ _, HBu.out⟩
  case true =>
    obtain ⟨n40, nb20, hin⟩ := bok_in HOK.out
    obtain ⟨⟨p0, p1⟩, -⟩ := net_yes (bok_yes HOK.out).1
    have HIN : Hid (∀ i, i < nb → (K i : Int) ≤ 40 ∧ risB (V i) (K i) = true ∧ ∀ j, j < K i → 0 ≤ V i j ∧ V i j < (n : Int)) := hin
    have HRI : Hid (∀ i j, i < j → j < nb → X i < X j) := bok_rises HOK.out
    have HC1 : Hid (GrC w1 gN gB gP p s n c t m d bs nb bc id pl vs kp vc) := ⟨HN.out.2.2 0 _ rfl, HN.out.2.2 1 _ rfl, HN.out.2.2 2 _ rfl, HN.out.1, HBk.out.2.2 0 _ rfl, HBk.out.1, HP.out.2.2 0 _ rfl, HP.out.2.2 1 _ rfl, HP.out.2.2 2 _ rfl, HP.out.1⟩
    have HV1 : Hid (RowI w1 vs kp vp) := HV.out.below HB1.out
    have nb20i : (nb : Int) ≤ 20 := by omega
    clear HN HBk HP hin hst
    obtain ⟨d0, d1, d2, dz, e0, ez, f0, f1, f2, fz⟩ := HC1.out
    go_wp2_with fail
    refine (l22Form_any p s n c D t m d S id pl vs kp vc vp _ p0 p1 n40 hkp HV1).mono ?_
    rintro e w2 ⟨rfl, h2⟩
    clear d0 d1 d2 dz e0 ez f0 f1 f2 fz
    have HC2 : Hid (GrC w2 gN gB gP p s n c t m d bs nb bc id pl vs kp vc) := HC1.out.below h2
    have HU2 : Hid (Blk w2 gU [.slice none 0 0]) := HU.out.below h2
    have HB2 : Hid (Below w.heap.size w w2) := HB1.out.trans (h2.mono HB1.out.size)
    clear h2 HC1 HU HB1 HV1
    obtain ⟨fm, hfm⟩ : ∃ fm, fmB p n id pl kp vp = fm := ⟨_, rfl⟩
    have HFM : Hid (fmB p n id pl kp vp = fm) := hfm
    rw [hfm]
    clear hfm
    cases fm
    case false =>
      have HRt : Hid (RowPer w2 bs nb X Y K V) := HB.out.below HB2.out
      have HUt : Hid (Blk w2 gU [.slice none 0 0]) := HU2
      have HWt : Hid (Below w.heap.size w w2) := HB2
      have HKt := hKs
      have h1000 : (nb : Int) ≤ 1000 := by omega
      have HWHY : Hid (refV p n D m S nb X Y id pl kp vp = 2) := ref2 HFM.out
      obtain ⟨d0, d1, d2, dz, e0, ez, f0, f1, f2, fz⟩ := HC2.out
      go_wp2_with fail
      refine (l22CopyC_any bs nb bc X Y K V _ h1000 HKt HRt).mono ?_
      rintro e w5 ⟨tt, ct, rfl, hpk, h5⟩
      have HU5 : Hid (Blk w5 gU [.slice none 0 0]) := HUt.out.below h5
      have HPK : Hid (PtKc w2.heap.size w5 (.slice tt nb ct) nb X Y K V) := hpk
      have HW5 : Hid (Below w.heap.size w w5) := HWt.out.trans (h5.mono HWt.out.size)
      have xw : w.heap.size ≤ w2.heap.size := HWt.out.size
      have xu : gU < w2.heap.size := HUt.out.1
      obtain ⟨zU, fU, cU⟩ := HU5.out
      have y0 := cU 0 _ rfl
      have yf := fU 0
      have hst := store_slT
      have bsU : Beside gU w5 (w5.setCell ⟨gU, 0, none⟩ (.slice tt nb ct)) := Beside.setCell gU _ 0 _
      have HP6 : Hid (PtKc w2.heap.size (w5.setCell ⟨gU, 0, none⟩ (.slice tt nb ct)) (.slice tt nb ct) nb X Y K V) := HPK.out.beside bsU xu
      have HW6 : Hid (Below w.heap.size w (w5.setCell ⟨gU, 0, none⟩ (.slice tt nb ct))) := HW5.out.trans (bsU.below (by omega) HW5.out.size)
      have s6 : Hid (w5.heap.size ≤ (w5.setCell ⟨gU, 0, none⟩ (.slice tt nb ct)).heap.size) := bsU.2.2.2.1
      clear bsU cU fU h5 hpk HPK
      go_wp2
      refine bodyPost_ret (v := .tuple #[.agg #[.slice tt nb ct], .int .i64 2]) (by simp [results, Try.results12, go_sem, y0]) rfl ?_
      refine GrAnsK.no HOK.out HWHY.out (by decide) ?_
      exact ⟨tt, ct, rfl, HP6.out.low xw, HW6.out⟩
    case true =>
      obtain ⟨d0, d1, d2, dz, e0, ez, f0, f1, f2, fz⟩ := HC2.out
      go_wp2_with fail
      clear d0 d1 d2 dz e0 ez f0 f1 f2 fz
      go_loopw [8, 9] (fun v8 v9 wr => ∃ (k : Nat) (pb : Bool), k ≤ nb ∧ v8 = .bool pb ∧ v9 = .int .i64 k ∧ Hid (pb = !freeB Y k pl) ∧ Hid (∀ j, j < k → X j ≠ id) ∧ Hid (GrC wr gN gB gP p s n c t m d bs nb bc id pl vs kp vc) ∧ Hid (Blk wr gU [.slice none 0 0]) ∧ Hid (Below w.heap.size w wr)) (fun _ v _ => nb - (intOf v).toNat)
      case atStart => exact ⟨0, false, Nat.zero_le _, rfl, rfl, (by show _ = _; unfold freeB; simp), fun j hj => absurd hj (Nat.not_lt_zero _), HC2, HU2, HB2⟩
      case round =>
        clear HC2 HU2 HB2
        obtain ⟨k, pb, hk, rfl, rfl, HPB, HNE, HC, HU, HW⟩ := hrel
        rename World => wr
        by_cases h2 : k < nb
        case pos =>
          have k1 : (k : Int) < (nb : Int) := by omega
          obtain ⟨g, o, a, e, rfl, hg, c0, c1, c2, ha⟩ := HB.out k h2
          obtain ⟨x, hx⟩ : ∃ x, X k = x := ⟨_, rfl⟩
          obtain ⟨y, hy⟩ : ∃ y, Y k = y := ⟨_, rfl⟩
          have HX : Hid (X k = x ∧ Y k = y) := ⟨hx, hy⟩
          rw [hx] at c0
          rw [hy] at c1
          replace c0 := (HW.out.cell (p := ⟨g, o + k * 3, none⟩) hg).trans c0
          replace c1 := (HW.out.cell (p := ⟨g, o + k * 3 + 1, none⟩) hg).trans c1
          have zg : g < wr.heap.size := Nat.lt_of_lt_of_le hg HW.out.size
          clear hx hy c2 ha hg
          obtain ⟨d0, d1, d2, dz, e0, ez, f0, f1, f2, fz⟩ := HC.out
          by_cases hq : x = id
          case pos =>
            have xb : (x == id) = true := by rw [hq]; simp
            have HXI : Hid (X k = id) := by show _ = _; rw [HX.out.1]; exact hq
            clear hq
            go_upto_region 9 with fail
            go_quiet (fail)
            clear d0 d1 d2 dz e0 ez f0 f1 f2 fz
            obtain ⟨w3, hw3⟩ : ∃ z, z = wr.drewN nq := ⟨_, rfl⟩
            rw [← hw3]
            have b3 : Below wr.heap.size wr w3 := by rw [hw3]; exact below_drewN wr nq
            have HC3 : Hid (GrC w3 gN gB gP p s n c t m d (some ⟨g, o, none⟩) nb bc id pl vs kp vc) := HC.out.below b3
            have HU3 : Hid (Blk w3 gU [.slice none 0 0]) := HU.out.below b3
            have HW3 : Hid (Below w.heap.size w w3) := HW.out.trans (b3.mono HW.out.size)
            clear hw3 b3 c0 c1 zg xb
            have HRt : Hid (RowPer w3 (some ⟨g, o, none⟩) nb X Y K V) := HB.out.below HW3.out
            have HUt : Hid (Blk w3 gU [.slice none 0 0]) := HU3
            have HWt : Hid (Below w.heap.size w w3) := HW3
            have HKt := hKs
            have h1000 : (nb : Int) ≤ 1000 := by omega
            have HWHY : Hid (refV p n D m S nb X Y id pl kp vp = 3) := ref3 HFM.out (has_at h2 HXI.out)
            obtain ⟨d0, d1, d2, dz, e0, ez, f0, f1, f2, fz⟩ := HC3.out
            go_wp2_with fail
            refine (l22CopyC_any (some ⟨g, o, none⟩) nb bc X Y K V _ h1000 HKt HRt).mono ?_
            rintro e w5 ⟨tt, ct, rfl, hpk, h5⟩
            have HU5 : Hid (Blk w5 gU [.slice none 0 0]) := HUt.out.below h5
            have HPK : Hid (PtKc w3.heap.size w5 (.slice tt nb ct) nb X Y K V) := hpk
            have HW5 : Hid (Below w.heap.size w w5) := HWt.out.trans (h5.mono HWt.out.size)
            have xw : w.heap.size ≤ w3.heap.size := HWt.out.size
            have xu : gU < w3.heap.size := HUt.out.1
            obtain ⟨zU, fU, cU⟩ := HU5.out
            have y0 := cU 0 _ rfl
            have yf := fU 0
            have hst := store_slT
            have bsU : Beside gU w5 (w5.setCell ⟨gU, 0, none⟩ (.slice tt nb ct)) := Beside.setCell gU _ 0 _
            have HP6 : Hid (PtKc w3.heap.size (w5.setCell ⟨gU, 0, none⟩ (.slice tt nb ct)) (.slice tt nb ct) nb X Y K V) := HPK.out.beside bsU xu
            have HW6 : Hid (Below w.heap.size w (w5.setCell ⟨gU, 0, none⟩ (.slice tt nb ct))) := HW5.out.trans (bsU.below (by omega) HW5.out.size)
            have s6 : Hid (w5.heap.size ≤ (w5.setCell ⟨gU, 0, none⟩ (.slice tt nb ct)).heap.size) := bsU.2.2.2.1
            clear bsU cU fU h5 hpk HPK
            go_wp2
            refine bodyPost_ret (v := .tuple #[.agg #[.slice tt nb ct], .int .i64 3]) (by simp [results, Try.results12, go_sem, y0]) rfl ?_
            refine GrAnsK.no HOK.out HWHY.out (by decide) ?_
            exact ⟨tt, ct, rfl, HP6.out.low xw, HW6.out⟩
          case neg =>
            have xb : (x == id) = false := beq_false_of_ne hq
            have HNE1 : Hid (∀ j, j < k + 1 → X j ≠ id) := fun j hj => by
              by_cases z : j = k
              · subst z; rw [HX.out.1]; exact hq
              · exact HNE.out j (by omega)
            clear hq
            obtain ⟨yb, hyb⟩ : ∃ yb, (y == pl) = yb := ⟨_, rfl⟩
            have HYB : Hid ((y == pl) = yb) := hyb
            cases pb
            case false =>
              have HPB1 : Hid (yb = !freeB Y (k + 1) pl) := by show _ = _; rw [free_step, HX.out.2, HYB.out, free_not HPB.out]; cases yb <;> rfl
              go_upto_region 9 with fail
              go_quiet (fail)
              clear d0 d1 d2 dz e0 ez f0 f1 f2 fz
              obtain ⟨w2, hw2⟩ : ∃ z, z = wr.drewN nq := ⟨_, rfl⟩
              rw [← hw2]
              have b2 : Below wr.heap.size wr w2 := by rw [hw2]; exact below_drewN wr nq
              have HC2 : Hid (GrC w2 gN gB gP p s n c t m d (some ⟨g, o, none⟩) nb bc id pl vs kp vc) := HC.out.below b2
              have HU2 : Hid (Blk w2 gU [.slice none 0 0]) := HU.out.below b2
              have HW2 : Hid (Below w.heap.size w w2) := HW.out.trans (b2.mono HW.out.size)
              replace c1 := (b2.cell (p := ⟨g, o + k * 3 + 1, none⟩) zg).trans c1
              replace zg := Nat.lt_of_lt_of_le zg b2.size
              clear hw2 b2 c0 xb
              clear nq
              obtain ⟨d0, d1, d2, dz, e0, ez, f0, f1, f2, fz⟩ := HC2.out
              go_upto_region 11 with fail
              go_quiet (fail)
              clear d0 d1 d2 dz e0 ez f0 f1 f2 fz
              obtain ⟨w3, hw3⟩ : ∃ z, z = w2.drewN nq := ⟨_, rfl⟩
              rw [← hw3]
              have b3 : Below w2.heap.size w2 w3 := by rw [hw3]; exact below_drewN w2 nq
              have HC3 : Hid (GrC w3 gN gB gP p s n c t m d (some ⟨g, o, none⟩) nb bc id pl vs kp vc) := HC2.out.below b3
              have HU3 : Hid (Blk w3 gU [.slice none 0 0]) := HU2.out.below b3
              have HW3 : Hid (Below w.heap.size w w3) := HW2.out.trans (b3.mono HW2.out.size)
              clear hw3 b3 c1 zg
              go_wp2
              go_roundw
              case rel => exact ⟨k + 1, _, by omega, rfl, by go_num, HPB1, HNE1, HC3, HU3, HW3⟩
              case measure => first | (simp [intOf]; done) | (simp [intOf]; omega)
            case true =>
              have HPB1 : Hid (true = !freeB Y (k + 1) pl) := by show _ = _; rw [free_step, free_has HPB.out]; rfl
              clear hyb
              go_upto_region 9 with fail
              go_quiet (fail)
              clear d0 d1 d2 dz e0 ez f0 f1 f2 fz
              obtain ⟨w2, hw2⟩ : ∃ z, z = wr.drewN nq := ⟨_, rfl⟩
              rw [← hw2]
              have b2 : Below wr.heap.size wr w2 := by rw [hw2]; exact below_drewN wr nq
              have HC2 : Hid (GrC w2 gN gB gP p s n c t m d (some ⟨g, o, none⟩) nb bc id pl vs kp vc) := HC.out.below b2
              have HU2 : Hid (Blk w2 gU [.slice none 0 0]) := HU.out.below b2
              have HW2 : Hid (Below w.heap.size w w2) := HW.out.trans (b2.mono HW.out.size)
              replace c1 := (b2.cell (p := ⟨g, o + k * 3 + 1, none⟩) zg).trans c1
              replace zg := Nat.lt_of_lt_of_le zg b2.size
              clear hw2 b2 c0 xb
              clear nq
              obtain ⟨d0, d1, d2, dz, e0, ez, f0, f1, f2, fz⟩ := HC2.out
              go_upto_region 11 with fail
              go_quiet (fail)
              clear d0 d1 d2 dz e0 ez f0 f1 f2 fz
              obtain ⟨w3, hw3⟩ : ∃ z, z = w2.drewN nq := ⟨_, rfl⟩
              rw [← hw3]
              have b3 : Below w2.heap.size w2 w3 := by rw [hw3]; exact below_drewN w2 nq
              have HC3 : Hid (GrC w3 gN gB gP p s n c t m d (some ⟨g, o, none⟩) nb bc id pl vs kp vc) := HC2.out.below b3
              have HU3 : Hid (Blk w3 gU [.slice none 0 0]) := HU2.out.below b3
              have HW3 : Hid (Below w.heap.size w w3) := HW2.out.trans (b3.mono HW2.out.size)
              clear hw3 b3 c1 zg
              go_wp2
              go_roundw
              case rel => exact ⟨k + 1, _, by omega, rfl, by go_num, HPB1, HNE1, HC3, HU3, HW3⟩
              case measure => first | (simp [intOf]; done) | (simp [intOf]; omega)
        case neg =>
          obtain rfl : nb = k := by omega
          have HHN : Hid (hasB X nb id = false) := has_no HNE.out
          clear HNE
          cases pb
          case true =>
            have HFF : Hid (freeB Y nb pl = false) := free_has HPB.out
            have HRt : Hid (RowPer wr bs nb X Y K V) := HB.out.below HW.out
            have HUt : Hid (Blk wr gU [.slice none 0 0]) := HU
            have HWt : Hid (Below w.heap.size w wr) := HW
            have HKt := hKs
            have h1000 : (nb : Int) ≤ 1000 := by omega
            have HWHY : Hid (refV p n D m S nb X Y id pl kp vp = 4) := ref4 HFM.out HHN.out HFF.out
            obtain ⟨d0, d1, d2, dz, e0, ez, f0, f1, f2, fz⟩ := HC.out
            go_wp2_with fail
            refine (l22CopyC_any bs nb bc X Y K V _ h1000 HKt HRt).mono ?_
            rintro e w5 ⟨tt, ct, rfl, hpk, h5⟩
            have HU5 : Hid (Blk w5 gU [.slice none 0 0]) := HUt.out.below h5
            have HPK : Hid (PtKc wr.heap.size w5 (.slice tt nb ct) nb X Y K V) := hpk
            have HW5 : Hid (Below w.heap.size w w5) := HWt.out.trans (h5.mono HWt.out.size)
            have xw : w.heap.size ≤ wr.heap.size := HWt.out.size
            have xu : gU < wr.heap.size := HUt.out.1
            obtain ⟨zU, fU, cU⟩ := HU5.out
            have y0 := cU 0 _ rfl
            have yf := fU 0
            have hst := store_slT
            have bsU : Beside gU w5 (w5.setCell ⟨gU, 0, none⟩ (.slice tt nb ct)) := Beside.setCell gU _ 0 _
            have HP6 : Hid (PtKc wr.heap.size (w5.setCell ⟨gU, 0, none⟩ (.slice tt nb ct)) (.slice tt nb ct) nb X Y K V) := HPK.out.beside bsU xu
            have HW6 : Hid (Below w.heap.size w (w5.setCell ⟨gU, 0, none⟩ (.slice tt nb ct))) := HW5.out.trans (bsU.below (by omega) HW5.out.size)
            have s6 : Hid (w5.heap.size ≤ (w5.setCell ⟨gU, 0, none⟩ (.slice tt nb ct)).heap.size) := bsU.2.2.2.1
            clear bsU cU fU h5 hpk HPK
            go_wp2
            refine bodyPost_ret (v := .tuple #[.agg #[.slice tt nb ct], .int .i64 4]) (by simp [results, Try.results12, go_sem, y0]) rfl ?_
            refine GrAnsK.no HOK.out HWHY.out (by decide) ?_
            exact ⟨tt, ct, rfl, HP6.out.low xw, HW6.out⟩
          case false =>
            have HFF : Hid (freeB Y nb pl = true) := free_not HPB.out
            have HDr : Hid (RowDuct wr s n D) := HD.out.below HW.out
            have HSr : Hid (RowI wr t m S) := HS.out.below HW.out
            have HVr : Hid (RowI wr vs kp vp) := HV.out.below HW.out
            obtain ⟨d0, d1, d2, dz, e0, ez, f0, f1, f2, fz⟩ := HC.out
            go_wp2_with fail
            refine (specCutOff_any p s n c D t m d S vs kp vc vp pl _ hn hm hkp HDr HSr HVr).mono ?_
            rintro e w4 ⟨rfl, h4⟩
            clear d0 d1 d2 dz e0 ez f0 f1 f2 fz
            have HC4 : Hid (GrC w4 gN gB gP p s n c t m d bs nb bc id pl vs kp vc) := HC.out.below h4
            have HU4 : Hid (Blk w4 gU [.slice none 0 0]) := HU.out.below h4
            have HB4 : Hid (Below w.heap.size w w4) := HW.out.trans (h4.mono HW.out.size)
            clear h4 HC HU HW HDr HSr HVr
            obtain ⟨cu, hcu⟩ : ∃ cu, cutB p n D m S kp vp pl = cu := ⟨_, rfl⟩
            have HCU : Hid (cutB p n D m S kp vp pl = cu) := hcu
            rw [hcu]
            clear hcu
            cases cu
            case false =>
              have HRt : Hid (RowPer w4 bs nb X Y K V) := HB.out.below HB4.out
              have HUt : Hid (Blk w4 gU [.slice none 0 0]) := HU4
              have HWt : Hid (Below w.heap.size w w4) := HB4
              have HKt := hKs
              have h1000 : (nb : Int) ≤ 1000 := by omega
              have HWHY : Hid (refV p n D m S nb X Y id pl kp vp = 5) := ref5 HFM.out HHN.out HFF.out HCU.out
              obtain ⟨d0, d1, d2, dz, e0, ez, f0, f1, f2, fz⟩ := HC4.out
              go_wp2_with fail
              refine (l22CopyC_any bs nb bc X Y K V _ h1000 HKt HRt).mono ?_
              rintro e w5 ⟨tt, ct, rfl, hpk, h5⟩
              have HU5 : Hid (Blk w5 gU [.slice none 0 0]) := HUt.out.below h5
              have HPK : Hid (PtKc w4.heap.size w5 (.slice tt nb ct) nb X Y K V) := hpk
              have HW5 : Hid (Below w.heap.size w w5) := HWt.out.trans (h5.mono HWt.out.size)
              have xw : w.heap.size ≤ w4.heap.size := HWt.out.size
              have xu : gU < w4.heap.size := HUt.out.1
              obtain ⟨zU, fU, cU⟩ := HU5.out
              have y0 := cU 0 _ rfl
              have yf := fU 0
              have hst := store_slT
              have bsU : Beside gU w5 (w5.setCell ⟨gU, 0, none⟩ (.slice tt nb ct)) := Beside.setCell gU _ 0 _
              have HP6 : Hid (PtKc w4.heap.size (w5.setCell ⟨gU, 0, none⟩ (.slice tt nb ct)) (.slice tt nb ct) nb X Y K V) := HPK.out.beside bsU xu
              have HW6 : Hid (Below w.heap.size w (w5.setCell ⟨gU, 0, none⟩ (.slice tt nb ct))) := HW5.out.trans (bsU.below (by omega) HW5.out.size)
              have s6 : Hid (w5.heap.size ≤ (w5.setCell ⟨gU, 0, none⟩ (.slice tt nb ct)).heap.size) := bsU.2.2.2.1
              clear bsU cU fU h5 hpk HPK
              go_wp2
              refine bodyPost_ret (v := .tuple #[.agg #[.slice tt nb ct], .int .i64 5]) (by simp [results, Try.results12, go_sem, y0]) rfl ?_
              refine GrAnsK.no HOK.out HWHY.out (by decide) ?_
              exact ⟨tt, ct, rfl, HP6.out.low xw, HW6.out⟩
            case true =>
              by_cases h20 : 20 ≤ nb
              case pos =>
                have nbe : ((nb : Int) == 20) = true := by have e : nb = 20 := by omega
                                                           rw [e]; rfl
                have HRt : Hid (RowPer w4 bs nb X Y K V) := HB.out.below HB4.out
                have HUt : Hid (Blk w4 gU [.slice none 0 0]) := HU4
                have HWt : Hid (Below w.heap.size w w4) := HB4
                have HKt := hKs
                have h1000 : (nb : Int) ≤ 1000 := by omega
                have HWHY : Hid (refV p n D m S nb X Y id pl kp vp = 6) := ref6 HFM.out HHN.out HFF.out HCU.out h20
                obtain ⟨d0, d1, d2, dz, e0, ez, f0, f1, f2, fz⟩ := HC4.out
                go_wp2_with fail
                refine (l22CopyC_any bs nb bc X Y K V _ h1000 HKt HRt).mono ?_
                rintro e w5 ⟨tt, ct, rfl, hpk, h5⟩
                have HU5 : Hid (Blk w5 gU [.slice none 0 0]) := HUt.out.below h5
                have HPK : Hid (PtKc w4.heap.size w5 (.slice tt nb ct) nb X Y K V) := hpk
                have HW5 : Hid (Below w.heap.size w w5) := HWt.out.trans (h5.mono HWt.out.size)
                have xw : w.heap.size ≤ w4.heap.size := HWt.out.size
                have xu : gU < w4.heap.size := HUt.out.1
                obtain ⟨zU, fU, cU⟩ := HU5.out
                have y0 := cU 0 _ rfl
                have yf := fU 0
                have hst := store_slT
                have bsU : Beside gU w5 (w5.setCell ⟨gU, 0, none⟩ (.slice tt nb ct)) := Beside.setCell gU _ 0 _
                have HP6 : Hid (PtKc w4.heap.size (w5.setCell ⟨gU, 0, none⟩ (.slice tt nb ct)) (.slice tt nb ct) nb X Y K V) := HPK.out.beside bsU xu
                have HW6 : Hid (Below w.heap.size w (w5.setCell ⟨gU, 0, none⟩ (.slice tt nb ct))) := HW5.out.trans (bsU.below (by omega) HW5.out.size)
                have s6 : Hid (w5.heap.size ≤ (w5.setCell ⟨gU, 0, none⟩ (.slice tt nb ct)).heap.size) := bsU.2.2.2.1
                clear bsU cU fU h5 hpk HPK
                go_wp2
                refine bodyPost_ret (v := .tuple #[.agg #[.slice tt nb ct], .int .i64 6]) (by simp [results, Try.results12, go_sem, y0]) rfl ?_
                refine GrAnsK.no HOK.out HWHY.out (by decide) ?_
                exact ⟨tt, ct, rfl, HP6.out.low xw, HW6.out⟩
              case neg =>
                have nbe : ((nb : Int) == 20) = false := beq_false_of_ne (by omega)
                have HR0 : Hid (refV p n D m S nb X Y id pl kp vp = 0) := ref0 HFM.out HHN.out HFF.out HCU.out h20
                have HIQ : Hid (InsAt nb X id q) := HQ.out HOK.out HR0.out
                have hqn : q ≤ nb := HIQ.out.1
                clear h20
                obtain ⟨d0, d1, d2, dz, e0, ez, f0, f1, f2, fz⟩ := HC4.out
                go_upto_region 19 with fail
                clear d0 d1 d2 dz e0 ez f0 f1 f2 fz
                obtain ⟨w6, hw6⟩ : ∃ z, z = w4.alloc (.cells #[.slice none 0 0] 36) := ⟨_, rfl⟩
                try rw [← hw6]
                have b6 : Below w4.heap.size w4 w6 := by rw [hw6]; exact below0 _ _
                obtain ⟨gO, hgO⟩ : ∃ z, z = w4.heap.size := ⟨_, rfl⟩
                have HO : Hid (Blk w6 gO [.slice none 0 0]) := by rw [hw6, hgO]; exact Blk.new w4 #[.slice none 0 0] _
                have HC6 : Hid (GrC w6 gN gB gP p s n c t m d bs nb bc id pl vs kp vc) := HC4.out.below b6
                have HU6 : Hid (Blk w6 gU [.slice none 0 0]) := HU4.out.below b6
                have HB6 : Hid (Below w.heap.size w w6) := HB4.out.trans (b6.mono HB4.out.size)
                have y1 : gU < gO := by have := HU4.out.1; omega
                have y2 : w.heap.size ≤ gO := by have := HB4.out.size; omega
                have y3 : gO + 1 ≤ w6.heap.size := HO.out.1
                have zgO : gN < gO ∧ gB < gO ∧ gP < gO := by omega
                try rw [← hgO]
                clear hw6 b6 hgO HC4 HU4 HB4 nbe
                go_wp2_with fail
                go_loopw [11, 12] (fun v11 v12 wr => ∃ (k mo cv : Nat) (tv : Option Addr) (lb : Bool), k ≤ nb ∧ mo ≤ k + 1 ∧ v11 = .bool lb ∧ v12 = .int .i64 k ∧ Hid (lb = decide (q < k)) ∧ Hid (mo = if k ≤ q then k else k + 1) ∧ Hid (GrC wr gN gB gP p s n c t m d bs nb bc id pl vs kp vc) ∧ Hid (Blk wr gU [.slice none 0 0]) ∧ Hid (Blk wr gO [.slice tv mo cv]) ∧ Hid (PtS (gO + 1) w wr (.slice tv mo cv) mo (inF q id X) (inF q pl Y) (inF q kp K) (inF q vp V)) ∧ Hid (Below w.heap.size w wr) ∧ gO + 1 ≤ wr.heap.size) (fun _ v _ => nb - (intOf v).toNat)
                case atStart => exact ⟨0, 0, 0, none, false, Nat.zero_le _, by omega, rfl, rfl, (by show _ = _; simp), (by show _ = _; rw [if_pos (Nat.zero_le _)]), HC6, HU6, HO, PtS.nil _ _ _ _ _ _ _, HB6, y3⟩
                case round =>
                  clear HC6 HU6 HO HB6 y3
                  obtain ⟨k, mo, cv, tv, lb, hk, hmk, rfl, rfl, HLB, HM, HC, HU, HO, HPT, HW, y9⟩ := hrel
                  rename World => wr
                  by_cases h2 : k < nb
                  case pos =>
                    have k1 : (k : Int) < (nb : Int) := by omega
                    obtain ⟨g, o, a, e, rfl, hg, c0, c1, c2, ha⟩ := HB.out k h2
                    obtain ⟨x, hx⟩ : ∃ x, X k = x := ⟨_, rfl⟩
                    obtain ⟨y, hy⟩ : ∃ y, Y k = y := ⟨_, rfl⟩
                    obtain ⟨kk, hkk⟩ : ∃ kk, K k = kk := ⟨_, rfl⟩
                    have HX : Hid (X k = x ∧ Y k = y ∧ K k = kk) := ⟨hx, hy, hkk⟩
                    rw [hx] at c0
                    rw [hy] at c1
                    rw [hkk] at c2
                    have hgw : g < w.heap.size := hg
                    have HA : Hid (ArgC wr gB (.slice (some ⟨g, o, none⟩) nb bc) g (o + k * 3) x y (.slice a kk e)) := ⟨HC.out.2.2.2.2.1, HC.out.2.2.2.2.2.1, (HW.out.cell (p := ⟨g, o + k * 3, none⟩) hg).trans c0, (HW.out.cell (p := ⟨g, o + k * 3 + 1, none⟩) hg).trans c1, (HW.out.cell (p := ⟨g, o + k * 3 + 2, none⟩) hg).trans c2, Nat.lt_of_lt_of_le hg HW.out.size⟩
                    have HRA : Hid (RowI w a kk (V k)) := by rw [hkk] at ha; exact ha
                    have mo21 : mo ≤ 21 := by omega
                    clear hx hy hkk c0 c1 c2 ha hg
                    rcases Nat.lt_trichotomy k q with hq | hq | hq
                    · have hlb : lb = false := by rw [HLB.out]; exact decide_eq_false (by omega)
                      have xid : X k < id := HIQ.out.2.1 k hq
                      rw [HX.out.1] at xid
                      have hgt : decide (id < x) = false := decide_eq_false (by omega)
                      have hgt2 : ¬ id < x := by omega
                      have HMK : Hid (mo = k) := by show _ = _; have := HM.out; rw [if_pos (by omega)] at this; exact this
                      have HIX : Hid (inF q id X mo = x ∧ inF q pl Y mo = y ∧ inF q kp K mo = kk ∧ inF q vp V mo = V k) := by rw [HMK.out, inF_lt hq, inF_lt hq, inF_lt hq, inF_lt hq]; exact ⟨HX.out.1, HX.out.2.1, HX.out.2.2, rfl⟩
                      have HM1 : Hid (mo + 1 = if k + 1 ≤ q then k + 1 else k + 1 + 1) := by show _ = _; rw [if_pos (by omega), HMK.out]
                      have HLB1 : Hid (false = decide (q < k + 1)) := (decide_eq_false (by omega)).symm
                      subst hlb
                      clear xid hq
                      obtain ⟨d0, d1, d2, dz, e0, ez, f0, f1, f2, fz⟩ := HC.out
                      obtain ⟨-, -, c0, c1, c2, zg⟩ := HA.out
                      go_upto_region 23 with fail
                      go_quiet (fail)
                      clear d0 d1 d2 dz e0 ez f0 f1 f2 fz c0 c1 c2 zg
                      obtain ⟨w2, hw2⟩ : ∃ z, z = wr.drewN nq := ⟨_, rfl⟩
                      rw [← hw2]
                      have b2 : Below wr.heap.size wr w2 := by rw [hw2]; exact below_drewN wr nq
                      have HC2 : Hid (GrC w2 gN gB gP p s n c t m d (some ⟨g, o, none⟩) nb bc id pl vs kp vc) := HC.out.below b2
                      have HU2 : Hid (Blk w2 gU [.slice none 0 0]) := HU.out.below b2
                      have HO2 : Hid (Blk w2 gO [.slice tv mo cv]) := HO.out.below b2
                      have HPT2 : Hid (PtS (gO + 1) w w2 (.slice tv mo cv) mo (inF q id X) (inF q pl Y) (inF q kp K) (inF q vp V)) := HPT.out.below b2
                      have HW2 : Hid (Below w.heap.size w w2) := HW.out.trans (b2.mono HW.out.size)
                      have HA2 : Hid (ArgC w2 gB (.slice (some ⟨g, o, none⟩) nb bc) g (o + k * 3) x y (.slice a kk e)) := HA.out.below b2
                      have y92 : gO + 1 ≤ w2.heap.size := Nat.le_trans y9 b2.size
                      clear hw2 b2 nq HC HU HO HPT HW HA y9
                      go_upto_region 26 with fail
                      refine wp_region_held_drew (S := fun w' => ArgC w' gB (.slice (some ⟨g, o, none⟩) nb bc) g (o + k * 3) x y (.slice a kk e)) (by kernel_rfl) ?_ (fun hHeld => ?_)
                      · exact HA2.out
                      obtain ⟨r1, hv0⟩ : ∃ z, z = w2.drew := ⟨_, rfl⟩
                      try rw [← hv0] at hHeld
                      rw [← hv0]
                      have bv0 : Below w2.heap.size w2 r1 := by rw [hv0]; exact Below.drew (Below.refl _ _)
                      clear hv0
                      have HC0 : Hid (GrC r1 gN gB gP p s n c t m d (some ⟨g, o, none⟩) nb bc id pl vs kp vc) := HC2.out.below bv0
                      have HU0 : Hid (Blk r1 gU [.slice none 0 0]) := HU2.out.below bv0
                      have HO0 : Hid (Blk r1 gO [.slice tv mo cv]) := HO2.out.below bv0
                      have HPT0 : Hid (PtS (gO + 1) w r1 (.slice tv mo cv) mo (inF q id X) (inF q pl Y) (inF q kp K) (inF q vp V)) := HPT2.out.below bv0
                      have HW0 : Hid (Below w.heap.size w r1) := HW2.out.trans (bv0.mono HW2.out.size)
                      have HA0 : Hid (ArgC r1 gB (.slice (some ⟨g, o, none⟩) nb bc) g (o + k * 3) x y (.slice a kk e)) := HA2.out.below bv0
                      have y90 : gO + 1 ≤ r1.heap.size := Nat.le_trans y92 bv0.size
                      clear bv0 HC2 HU2 HO2 HPT2 HW2 HA2 y92
                      refine wpAnyH_take (i := 0) (v := .pointer (some ⟨gO, 0, none⟩)) rfl (by kernel_rfl) (by kernel_rfl) (by kernel_rfl) (fun _ _ _ h => h) (Or.inl ⟨by kernel_rfl, ?_⟩) hHeld ?_
                      · intro w' hSw
                        obtain ⟨hc0, hz0, hc1, hc2, hc3, hz1⟩ := hSw
                        first | (go_simp; done) | (go_simp; with_reducible rfl) | (go_simp; rw [IntKind.wrap_i64]; omega) | (go_simp; omega)
                      simp only [Act.put, List.setIfInBounds_toArray, List.set_cons_zero, List.set_cons_succ]
                      refine wpAnyH_take (i := 2) (v := .pointer (some ⟨gB, 0, none⟩)) rfl (by kernel_rfl) (by kernel_rfl) (by kernel_rfl) (fun _ _ _ h => h) (Or.inl ⟨by kernel_rfl, ?_⟩) hHeld ?_
                      · intro w' hSw
                        obtain ⟨hc0, hz0, hc1, hc2, hc3, hz1⟩ := hSw
                        first | (go_simp; done) | (go_simp; with_reducible rfl) | (go_simp; rw [IntKind.wrap_i64]; omega) | (go_simp; omega)
                      simp only [Act.put, List.setIfInBounds_toArray, List.set_cons_zero, List.set_cons_succ]
                      refine wpAnyH_take (i := 3) (v := .slice (some ⟨g, o, none⟩) nb bc) rfl (by kernel_rfl) (by kernel_rfl) (by kernel_rfl) (fun _ _ _ h => h) (Or.inl ⟨by kernel_rfl, ?_⟩) hHeld ?_
                      · intro w' hSw
                        obtain ⟨hc0, hz0, hc1, hc2, hc3, hz1⟩ := hSw
                        first | (go_simp; done) | (go_simp; with_reducible rfl) | (go_simp; rw [IntKind.wrap_i64]; omega) | (go_simp; omega)
                      simp only [Act.put, List.setIfInBounds_toArray, List.set_cons_zero, List.set_cons_succ]
                      refine wpAnyH_take (i := 4) (v := .int .i64 (k : Int)) rfl (by kernel_rfl) (by kernel_rfl) (by kernel_rfl) (fun _ _ _ h => h) (Or.inl ⟨by kernel_rfl, ?_⟩) hHeld ?_
                      · intro w' hSw
                        obtain ⟨hc0, hz0, hc1, hc2, hc3, hz1⟩ := hSw
                        first | (go_simp; done) | (go_simp; with_reducible rfl) | (go_simp; rw [IntKind.wrap_i64]; omega) | (go_simp; omega)
                      simp only [Act.put, List.setIfInBounds_toArray, List.set_cons_zero, List.set_cons_succ]
                      refine wpAnyH_take (i := 5) (v := .pointer (some ⟨g, o + k * 3, none⟩)) rfl (by kernel_rfl) (by kernel_rfl) (by kernel_rfl) (fun _ _ _ h => h) (Or.inl ⟨by kernel_rfl, ?_⟩) hHeld ?_
                      · intro w' hSw
                        obtain ⟨hc0, hz0, hc1, hc2, hc3, hz1⟩ := hSw
                        first | (go_simp; done) | (go_simp; with_reducible rfl) | (go_simp; rw [IntKind.wrap_i64]; omega) | (go_simp; omega)
                      simp only [Act.put, List.setIfInBounds_toArray, List.set_cons_zero, List.set_cons_succ]
                      refine wpAnyH_take (i := 6) (v := .agg #[.int .i64 x, .int .i64 y, .slice a kk e]) rfl (by kernel_rfl) (by kernel_rfl) (by kernel_rfl) (fun _ _ _ h => h) (Or.inl ⟨by kernel_rfl, ?_⟩) hHeld ?_
                      · intro w' hSw
                        obtain ⟨hc0, hz0, hc1, hc2, hc3, hz1⟩ := hSw
                        first | (go_simp; done) | (go_simp; with_reducible rfl) | (go_simp; rw [IntKind.wrap_i64]; omega) | (go_simp; omega)
                      simp only [Act.put, List.setIfInBounds_toArray, List.set_cons_zero, List.set_cons_succ]
                      refine wpAnyH_ready (rs := [1, 7]) (by kernel_rfl) (by simp) ?_
                      refine (AllReadyH.cons rfl (fun KK hK => ?_) (AllReadyH.cons rfl (fun KK hK => ?_) AllReadyH.nil))
                      · have hl_ := HO0.out.2.2 0 _ rfl
                        have hg_ := HO0.out.1
                        go_simp
                        clear hl_ hg_
                        refine hK.out _ _ (HA0.out) (fun hHeld => ?_)
                        clear hK KK
                        refine wpAnyH_ready (rs := [7]) (by kernel_rfl) (by simp) ?_
                        refine (AllReadyH.cons rfl (fun KK hK => ?_) AllReadyH.nil)
                        go_simp
                        obtain ⟨r1_2, hv_⟩ : ∃ z, z = r1.alloc (.cells #[.int .i64 x, .int .i64 y, .slice a kk e] 44) := ⟨_, rfl⟩
                        rw [← hv_]
                        obtain ⟨lb, hlb⟩ : ∃ z, z = r1.heap.size := ⟨_, rfl⟩
                        have b_ : Below r1.heap.size r1 r1_2 := by rw [hv_]; exact below0 _ _
                        have LB0 : r1_2.cell? ⟨lb, 0, none⟩ = some (.int .i64 x) := by rw [hv_, hlb]; simp [go_sem]
                        have LB1 : r1_2.cell? ⟨lb, 1, none⟩ = some (.int .i64 y) := by rw [hv_, hlb]; simp [go_sem]
                        have LB2 : r1_2.cell? ⟨lb, 2, none⟩ = some (.slice a kk e) := by rw [hv_, hlb]; simp [go_sem]
                        replace HC0 : Hid (GrC r1_2 gN gB gP p s n c t m d (some ⟨g, o, none⟩) nb bc id pl vs kp vc) := HC0.out.below b_
                        replace HU0 : Hid (Blk r1_2 gU [.slice none 0 0]) := HU0.out.below b_
                        replace HO0 : Hid (Blk r1_2 gO [.slice tv mo cv]) := HO0.out.below b_
                        replace HPT0 : Hid (PtS (gO + 1) w r1_2 (.slice tv mo cv) mo (inF q id X) (inF q pl Y) (inF q kp K) (inF q vp V)) := HPT0.out.below b_
                        replace HW0 : Hid (Below w.heap.size w r1_2) := HW0.out.trans (b_.mono HW0.out.size)
                        replace HA0 : Hid (ArgC r1_2 gB (.slice (some ⟨g, o, none⟩) nb bc) g (o + k * 3) x y (.slice a kk e)) := HA0.out.below b_
                        replace y90 : gO + 1 ≤ r1_2.heap.size := Nat.le_trans y90 b_.size
                        try rw [← hlb]
                        clear hv_ hlb b_
                        refine hK.out _ _ (HA0.out) (fun hHeld => ?_)
                        clear hK KK
                        refine wpAnyH_ready (rs := [8]) (by kernel_rfl) (by simp) ?_
                        refine (AllReadyH.cons rfl (fun KK hK => ?_) AllReadyH.nil)
                        refine wp_PermitS (gO + 1) (.slice tv mo cv) mo (inF q id X) (inF q pl Y) (inF q kp K) (inF q vp V) (.tmp 100) (.tmp 106) (by rfl) (by rfl) lb (by rfl) HPT0.out LB0 LB1 LB2 HIX.out.1 HIX.out.2.1 HIX.out.2.2.1 (by rw [HIX.out.2.2.2]; exact HRA.out) (by omega) y90 ?_
                        intro g8 cap8 r1_3 l9 b9 k9
                        have HPT9 : Hid (PtS (gO + 1) w r1_3 (.slice (some ⟨g8, 0, none⟩) (mo + 1) cap8) (mo + 1) (inF q id X) (inF q pl Y) (inF q kp K) (inF q vp V)) := l9
                        have HC9 : Hid (GrC r1_3 gN gB gP p s n c t m d (some ⟨g, o, none⟩) nb bc id pl vs kp vc) := HC0.out.belowB b9 (by omega) (by omega) (by omega)
                        have HU9 : Hid (Blk r1_3 gU [.slice none 0 0]) := HU0.out.belowB b9 (by omega)
                        have HO9 : Hid (Blk r1_3 gO [.slice tv mo cv]) := HO0.out.belowB b9 (by omega)
                        have HA9 : Hid (ArgC r1_3 gB (.slice (some ⟨g, o, none⟩) nb bc) g (o + k * 3) x y (.slice a kk e)) := HA0.out.belowB b9 (by omega) (by omega)
                        have HW9 : Hid (Below w.heap.size w r1_3) := HW0.out.trans (b9.mono (by omega))
                        have y99 : gO + 1 ≤ r1_3.heap.size := Nat.le_trans y90 b9.size
                        clear l9 b9 k9 LB0 LB1 LB2 HPT0 HC0 HU0 HO0 HA0 HW0
                        go_simp
                        refine hK.out _ _ (HA9.out) (fun hHeld => ?_)
                        clear hK KK
                        refine wpAnyH_take (i := 9) (v := .pointer (some ⟨gO, 0, none⟩)) rfl (by kernel_rfl) (by kernel_rfl) (by kernel_rfl) (fun _ _ _ h => h) (Or.inl ⟨by kernel_rfl, ?_⟩) hHeld ?_
                        · intro w' hSw
                          obtain ⟨hc0, hz0, hc1, hc2, hc3, hz1⟩ := hSw
                          first | (go_simp; done) | (go_simp; with_reducible rfl) | (go_simp; rw [IntKind.wrap_i64]; omega) | (go_simp; omega)
                        simp only [Act.put, List.setIfInBounds_toArray, List.set_cons_zero, List.set_cons_succ]
                        refine wpAnyH_ready (rs := [10]) (by kernel_rfl) (by simp) ?_
                        refine (AllReadyH.cons rfl (fun KK hK => ?_) AllReadyH.nil)
                        have hl_ := HO9.out.2.2 0 _ rfl
                        have hf_ := HO9.out.2.1 0
                        have hg_ := HO9.out.1
                        have hst := store_slT
                        go_simp
                        obtain ⟨r1_4, hv_⟩ : ∃ z, z = r1_3.setCell ⟨gO, 0, none⟩ (.slice (some ⟨g8, 0, none⟩) (mo + 1) cap8) := ⟨_, rfl⟩
                        rw [← hv_]
                        have bs_ : Beside gO r1_3 r1_4 := by rw [hv_]; exact Beside.setCell gO _ _ _
                        have HO8 : Hid (Blk r1_4 gO [.slice (some ⟨g8, 0, none⟩) (mo + 1) cap8]) := by rw [hv_]; exact HO9.out.set 0 _
                        have HPT8 : Hid (PtS (gO + 1) w r1_4 (.slice (some ⟨g8, 0, none⟩) (mo + 1) cap8) (mo + 1) (inF q id X) (inF q pl Y) (inF q kp K) (inF q vp V)) := HPT9.out.beside bs_ (by omega)
                        have HC8 : Hid (GrC r1_4 gN gB gP p s n c t m d (some ⟨g, o, none⟩) nb bc id pl vs kp vc) := HC9.out.beside bs_ (by omega) (by omega) (by omega)
                        have HU8 : Hid (Blk r1_4 gU [.slice none 0 0]) := HU9.out.beside bs_ (by omega)
                        have HA8 : Hid (ArgC r1_4 gB (.slice (some ⟨g, o, none⟩) nb bc) g (o + k * 3) x y (.slice a kk e)) := HA9.out.beside bs_ (by omega) (by omega)
                        have HW8 : Hid (Below w.heap.size w r1_4) := HW9.out.trans (bs_.below (by omega) HW9.out.size)
                        have y98 : gO + 1 ≤ r1_4.heap.size := Nat.le_trans y99 bs_.2.2.2.1
                        clear hv_ bs_ hl_ hf_ hg_ hst HO9 HPT9 HC9 HU9 HA9 HW9 y99
                        refine hK.out _ _ (HA8.out) (fun hHeld => ?_)
                        clear hK KK
                        refine wpAnyH_done (by kernel_rfl) ?_ _
                        clear hHeld
                        go_wp2
                        go_roundw
                        case rel => exact ⟨k + 1, mo + 1, cap8, some ⟨g8, 0, none⟩, false, by omega, (by have := HMK.out; omega), rfl, by go_num, HLB1, HM1, HC8, HU8, HO8, HPT8, HW8, y98⟩
                        case measure => first | (simp [intOf]; done) | (simp [intOf]; omega)
                      · go_simp
                        obtain ⟨r1_5, hv_⟩ : ∃ z, z = r1.alloc (.cells #[.int .i64 x, .int .i64 y, .slice a kk e] 44) := ⟨_, rfl⟩
                        rw [← hv_]
                        obtain ⟨lb, hlb⟩ : ∃ z, z = r1.heap.size := ⟨_, rfl⟩
                        have b_ : Below r1.heap.size r1 r1_5 := by rw [hv_]; exact below0 _ _
                        have LB0 : r1_5.cell? ⟨lb, 0, none⟩ = some (.int .i64 x) := by rw [hv_, hlb]; simp [go_sem]
                        have LB1 : r1_5.cell? ⟨lb, 1, none⟩ = some (.int .i64 y) := by rw [hv_, hlb]; simp [go_sem]
                        have LB2 : r1_5.cell? ⟨lb, 2, none⟩ = some (.slice a kk e) := by rw [hv_, hlb]; simp [go_sem]
                        replace HC0 : Hid (GrC r1_5 gN gB gP p s n c t m d (some ⟨g, o, none⟩) nb bc id pl vs kp vc) := HC0.out.below b_
                        replace HU0 : Hid (Blk r1_5 gU [.slice none 0 0]) := HU0.out.below b_
                        replace HO0 : Hid (Blk r1_5 gO [.slice tv mo cv]) := HO0.out.below b_
                        replace HPT0 : Hid (PtS (gO + 1) w r1_5 (.slice tv mo cv) mo (inF q id X) (inF q pl Y) (inF q kp K) (inF q vp V)) := HPT0.out.below b_
                        replace HW0 : Hid (Below w.heap.size w r1_5) := HW0.out.trans (b_.mono HW0.out.size)
                        replace HA0 : Hid (ArgC r1_5 gB (.slice (some ⟨g, o, none⟩) nb bc) g (o + k * 3) x y (.slice a kk e)) := HA0.out.below b_
                        replace y90 : gO + 1 ≤ r1_5.heap.size := Nat.le_trans y90 b_.size
                        try rw [← hlb]
                        clear hv_ hlb b_
                        refine hK.out _ _ (HA0.out) (fun hHeld => ?_)
                        clear hK KK
                        refine wpAnyH_ready (rs := [1]) (by kernel_rfl) (by simp) ?_
                        refine (AllReadyH.cons rfl (fun KK hK => ?_) AllReadyH.nil)
                        have hl_ := HO0.out.2.2 0 _ rfl
                        have hg_ := HO0.out.1
                        go_simp
                        clear hl_ hg_
                        refine hK.out _ _ (HA0.out) (fun hHeld => ?_)
                        clear hK KK
                        refine wpAnyH_ready (rs := [8]) (by kernel_rfl) (by simp) ?_
                        refine (AllReadyH.cons rfl (fun KK hK => ?_) AllReadyH.nil)
                        refine wp_PermitS (gO + 1) (.slice tv mo cv) mo (inF q id X) (inF q pl Y) (inF q kp K) (inF q vp V) (.tmp 100) (.tmp 106) (by rfl) (by rfl) lb (by rfl) HPT0.out LB0 LB1 LB2 HIX.out.1 HIX.out.2.1 HIX.out.2.2.1 (by rw [HIX.out.2.2.2]; exact HRA.out) (by omega) y90 ?_
                        intro g8 cap8 r1_7 l9 b9 k9
                        have HPT9 : Hid (PtS (gO + 1) w r1_7 (.slice (some ⟨g8, 0, none⟩) (mo + 1) cap8) (mo + 1) (inF q id X) (inF q pl Y) (inF q kp K) (inF q vp V)) := l9
                        have HC9 : Hid (GrC r1_7 gN gB gP p s n c t m d (some ⟨g, o, none⟩) nb bc id pl vs kp vc) := HC0.out.belowB b9 (by omega) (by omega) (by omega)
                        have HU9 : Hid (Blk r1_7 gU [.slice none 0 0]) := HU0.out.belowB b9 (by omega)
                        have HO9 : Hid (Blk r1_7 gO [.slice tv mo cv]) := HO0.out.belowB b9 (by omega)
                        have HA9 : Hid (ArgC r1_7 gB (.slice (some ⟨g, o, none⟩) nb bc) g (o + k * 3) x y (.slice a kk e)) := HA0.out.belowB b9 (by omega) (by omega)
                        have HW9 : Hid (Below w.heap.size w r1_7) := HW0.out.trans (b9.mono (by omega))
                        have y99 : gO + 1 ≤ r1_7.heap.size := Nat.le_trans y90 b9.size
                        clear l9 b9 k9 LB0 LB1 LB2 HPT0 HC0 HU0 HO0 HA0 HW0
                        go_simp
                        refine hK.out _ _ (HA9.out) (fun hHeld => ?_)
                        clear hK KK
                        refine wpAnyH_take (i := 9) (v := .pointer (some ⟨gO, 0, none⟩)) rfl (by kernel_rfl) (by kernel_rfl) (by kernel_rfl) (fun _ _ _ h => h) (Or.inl ⟨by kernel_rfl, ?_⟩) hHeld ?_
                        · intro w' hSw
                          obtain ⟨hc0, hz0, hc1, hc2, hc3, hz1⟩ := hSw
                          first | (go_simp; done) | (go_simp; with_reducible rfl) | (go_simp; rw [IntKind.wrap_i64]; omega) | (go_simp; omega)
                        simp only [Act.put, List.setIfInBounds_toArray, List.set_cons_zero, List.set_cons_succ]
                        refine wpAnyH_ready (rs := [10]) (by kernel_rfl) (by simp) ?_
                        refine (AllReadyH.cons rfl (fun KK hK => ?_) AllReadyH.nil)
                        have hl_ := HO9.out.2.2 0 _ rfl
                        have hf_ := HO9.out.2.1 0
                        have hg_ := HO9.out.1
                        have hst := store_slT
                        go_simp
                        obtain ⟨r1_8, hv_⟩ : ∃ z, z = r1_7.setCell ⟨gO, 0, none⟩ (.slice (some ⟨g8, 0, none⟩) (mo + 1) cap8) := ⟨_, rfl⟩
                        rw [← hv_]
                        have bs_ : Beside gO r1_7 r1_8 := by rw [hv_]; exact Beside.setCell gO _ _ _
                        have HO8 : Hid (Blk r1_8 gO [.slice (some ⟨g8, 0, none⟩) (mo + 1) cap8]) := by rw [hv_]; exact HO9.out.set 0 _
                        have HPT8 : Hid (PtS (gO + 1) w r1_8 (.slice (some ⟨g8, 0, none⟩) (mo + 1) cap8) (mo + 1) (inF q id X) (inF q pl Y) (inF q kp K) (inF q vp V)) := HPT9.out.beside bs_ (by omega)
                        have HC8 : Hid (GrC r1_8 gN gB gP p s n c t m d (some ⟨g, o, none⟩) nb bc id pl vs kp vc) := HC9.out.beside bs_ (by omega) (by omega) (by omega)
                        have HU8 : Hid (Blk r1_8 gU [.slice none 0 0]) := HU9.out.beside bs_ (by omega)
                        have HA8 : Hid (ArgC r1_8 gB (.slice (some ⟨g, o, none⟩) nb bc) g (o + k * 3) x y (.slice a kk e)) := HA9.out.beside bs_ (by omega) (by omega)
                        have HW8 : Hid (Below w.heap.size w r1_8) := HW9.out.trans (bs_.below (by omega) HW9.out.size)
                        have y98 : gO + 1 ≤ r1_8.heap.size := Nat.le_trans y99 bs_.2.2.2.1
                        clear hv_ bs_ hl_ hf_ hg_ hst HO9 HPT9 HC9 HU9 HA9 HW9 y99
                        refine hK.out _ _ (HA8.out) (fun hHeld => ?_)
                        clear hK KK
                        refine wpAnyH_done (by kernel_rfl) ?_ _
                        clear hHeld
                        go_wp2
                        go_roundw
                        case rel => exact ⟨k + 1, mo + 1, cap8, some ⟨g8, 0, none⟩, false, by omega, (by have := HMK.out; omega), rfl, by go_num, HLB1, HM1, HC8, HU8, HO8, HPT8, HW8, y98⟩
                        case measure => first | (simp [intOf]; done) | (simp [intOf]; omega)
                    · have hlb : lb = false := by rw [HLB.out]; exact decide_eq_false (by omega)
                      have xid : id < X k := HIQ.out.2.2 k (by omega) h2
                      rw [HX.out.1] at xid
                      have hgt : decide (id < x) = true := decide_eq_true xid
                      have HMK : Hid (mo = k) := by show _ = _; have := HM.out; rw [if_pos (by omega)] at this; exact this
                      have HMQ : Hid (mo = q) := by show _ = _; rw [HMK.out]; exact hq
                      have gq : q < mo + 1 := by rw [HMQ.out]; omega
                      have HIX : Hid (inF q id X (mo + 1) = x ∧ inF q pl Y (mo + 1) = y ∧ inF q kp K (mo + 1) = kk ∧ inF q vp V (mo + 1) = V k) := by rw [inF_gt gq, inF_gt gq, inF_gt gq, inF_gt gq, Nat.add_sub_cancel, HMK.out]; exact ⟨HX.out.1, HX.out.2.1, HX.out.2.2, rfl⟩
                      have HM1 : Hid (mo + 1 + 1 = if k + 1 ≤ q then k + 1 else k + 1 + 1) := by show _ = _; rw [if_neg (by omega), HMK.out]
                      have HLB1 : Hid (true = decide (q < k + 1)) := (decide_eq_true (by omega)).symm
                      subst hlb
                      clear hq gq
                      obtain ⟨d0, d1, d2, dz, e0, ez, f0, f1, f2, fz⟩ := HC.out
                      obtain ⟨-, -, c0, c1, c2, zg⟩ := HA.out
                      go_upto_region 23 with fail
                      go_quiet (fail)
                      clear d0 d1 d2 dz e0 ez f0 f1 f2 fz c0 c1 c2 zg
                      obtain ⟨w2, hw2⟩ : ∃ z, z = wr.drewN nq := ⟨_, rfl⟩
                      rw [← hw2]
                      have b2 : Below wr.heap.size wr w2 := by rw [hw2]; exact below_drewN wr nq
                      have HC2 : Hid (GrC w2 gN gB gP p s n c t m d (some ⟨g, o, none⟩) nb bc id pl vs kp vc) := HC.out.below b2
                      have HU2 : Hid (Blk w2 gU [.slice none 0 0]) := HU.out.below b2
                      have HO2 : Hid (Blk w2 gO [.slice tv mo cv]) := HO.out.below b2
                      have HPT2 : Hid (PtS (gO + 1) w w2 (.slice tv mo cv) mo (inF q id X) (inF q pl Y) (inF q kp K) (inF q vp V)) := HPT.out.below b2
                      have HW2 : Hid (Below w.heap.size w w2) := HW.out.trans (b2.mono HW.out.size)
                      have HA2 : Hid (ArgC w2 gB (.slice (some ⟨g, o, none⟩) nb bc) g (o + k * 3) x y (.slice a kk e)) := HA.out.below b2
                      have y92 : gO + 1 ≤ w2.heap.size := Nat.le_trans y9 b2.size
                      clear hw2 b2 nq HC HU HO HPT HW HA y9
                      clear xid hgt
                      obtain ⟨d0, d1, d2, dz, e0, ez, f0, f1, f2, fz⟩ := HC2.out
                      have o0 := HO2.out.2.2 0 _ rfl
                      have oz := HO2.out.1
                      have HXM : Hid (inF q id X mo = id ∧ inF q pl Y mo = pl ∧ inF q kp K mo = kp ∧ inF q vp V mo = vp) := by rw [HMQ.out, inF_eq, inF_eq, inF_eq, inF_eq]; exact ⟨rfl, rfl, rfl, rfl⟩
                      go_upto_region 26 with (at_builtin; refine list_PermitT (gO + 1) (.slice tv mo cv) mo (inF q id X) (inF q pl Y) (inF q kp K) (inF q vp V) (.tmp 94) (.tmp 96) (by rfl) (by rfl) (by rfl) (by rfl) HPT2.out HXM.out.1 HXM.out.2.1 HXM.out.2.2.1 (by rw [HXM.out.2.2.2]; exact HV.out) (by omega) y92 ?_; intro g9 cap9 w9 l9 b9; have HPT9 : Hid (PtS (gO + 1) w w9 (.slice (some ⟨g9, 0, none⟩) (mo + 1) cap9) (mo + 1) (inF q id X) (inF q pl Y) (inF q kp K) (inF q vp V)) := l9; have HC9 : Hid (GrC w9 gN gB gP p s n c t m d (some ⟨g, o, none⟩) nb bc id pl vs kp vc) := HC2.out.belowB b9 (by omega) (by omega) (by omega); have HU9 : Hid (Blk w9 gU [.slice none 0 0]) := HU2.out.belowB b9 (by omega); have HO9 : Hid (Blk w9 gO [.slice tv mo cv]) := HO2.out.belowB b9 (by omega); have HA9 : Hid (ArgC w9 gB (.slice (some ⟨g, o, none⟩) nb bc) g (o + k * 3) x y (.slice a kk e)) := HA2.out.belowB b9 (by omega) (by omega); have HW9 : Hid (Below w.heap.size w w9) := HW2.out.trans (b9.mono (by omega)); have y99 : gO + 1 ≤ w9.heap.size := Nat.le_trans y92 b9.size; clear l9 b9; have e9 := HO9.out.2.2 0 _ rfl; have f9 := HO9.out.2.1 0; have z9 := HO9.out.1; have hst := store_slT)
                      clear d0 d1 d2 dz e0 ez f0 f1 f2 fz o0 oz HXM
                      obtain ⟨w10, hw10⟩ : ∃ z, z = w9.setCell ⟨gO, 0, none⟩ (.slice (some ⟨g9, 0, none⟩) (mo + 1) cap9) := ⟨_, rfl⟩
                      try rw [← hw10]
                      have bs_ : Beside gO w9 w10 := by rw [hw10]; exact Beside.setCell gO _ _ _
                      have HO10 : Hid (Blk w10 gO [.slice (some ⟨g9, 0, none⟩) (mo + 1) cap9]) := by rw [hw10]; exact HO9.out.set 0 _
                      have HPT10 : Hid (PtS (gO + 1) w w10 (.slice (some ⟨g9, 0, none⟩) (mo + 1) cap9) (mo + 1) (inF q id X) (inF q pl Y) (inF q kp K) (inF q vp V)) := HPT9.out.beside bs_ (by omega)
                      have HC10 : Hid (GrC w10 gN gB gP p s n c t m d (some ⟨g, o, none⟩) nb bc id pl vs kp vc) := HC9.out.beside bs_ (by omega) (by omega) (by omega)
                      have HU10 : Hid (Blk w10 gU [.slice none 0 0]) := HU9.out.beside bs_ (by omega)
                      have HA10 : Hid (ArgC w10 gB (.slice (some ⟨g, o, none⟩) nb bc) g (o + k * 3) x y (.slice a kk e)) := HA9.out.beside bs_ (by omega) (by omega)
                      have HW10 : Hid (Below w.heap.size w w10) := HW9.out.trans (bs_.below (by omega) HW9.out.size)
                      have y910 : gO + 1 ≤ w10.heap.size := Nat.le_trans y99 bs_.2.2.2.1
                      clear hw10 bs_ e9 f9 z9 hst HPT9 HC9 HU9 HO9 HA9 HW9 y99 HC2 HU2 HO2 HPT2 HW2 HA2 y92
                      go_upto_region 26 with fail
                      refine wp_region_held_drew (S := fun w' => ArgC w' gB (.slice (some ⟨g, o, none⟩) nb bc) g (o + k * 3) x y (.slice a kk e)) (by kernel_rfl) ?_ (fun hHeld => ?_)
                      · exact HA10.out
                      obtain ⟨r2, hv0⟩ : ∃ z, z = w10.drew := ⟨_, rfl⟩
                      try rw [← hv0] at hHeld
                      rw [← hv0]
                      have bv0 : Below w10.heap.size w10 r2 := by rw [hv0]; exact Below.drew (Below.refl _ _)
                      clear hv0
                      have HC0 : Hid (GrC r2 gN gB gP p s n c t m d (some ⟨g, o, none⟩) nb bc id pl vs kp vc) := HC10.out.below bv0
                      have HU0 : Hid (Blk r2 gU [.slice none 0 0]) := HU10.out.below bv0
                      have HO0 : Hid (Blk r2 gO [.slice (some ⟨g9, 0, none⟩) (mo + 1) cap9]) := HO10.out.below bv0
                      have HPT0 : Hid (PtS (gO + 1) w r2 (.slice (some ⟨g9, 0, none⟩) (mo + 1) cap9) (mo + 1) (inF q id X) (inF q pl Y) (inF q kp K) (inF q vp V)) := HPT10.out.below bv0
                      have HW0 : Hid (Below w.heap.size w r2) := HW10.out.trans (bv0.mono HW10.out.size)
                      have HA0 : Hid (ArgC r2 gB (.slice (some ⟨g, o, none⟩) nb bc) g (o + k * 3) x y (.slice a kk e)) := HA10.out.below bv0
                      have y90 : gO + 1 ≤ r2.heap.size := Nat.le_trans y910 bv0.size
                      clear bv0 HC10 HU10 HO10 HPT10 HW10 HA10 y910
                      refine wpAnyH_take (i := 0) (v := .pointer (some ⟨gO, 0, none⟩)) rfl (by kernel_rfl) (by kernel_rfl) (by kernel_rfl) (fun _ _ _ h => h) (Or.inl ⟨by kernel_rfl, ?_⟩) hHeld ?_
                      · intro w' hSw
                        obtain ⟨hc0, hz0, hc1, hc2, hc3, hz1⟩ := hSw
                        first | (go_simp; done) | (go_simp; with_reducible rfl) | (go_simp; rw [IntKind.wrap_i64]; omega) | (go_simp; omega)
                      simp only [Act.put, List.setIfInBounds_toArray, List.set_cons_zero, List.set_cons_succ]
                      refine wpAnyH_take (i := 2) (v := .pointer (some ⟨gB, 0, none⟩)) rfl (by kernel_rfl) (by kernel_rfl) (by kernel_rfl) (fun _ _ _ h => h) (Or.inl ⟨by kernel_rfl, ?_⟩) hHeld ?_
                      · intro w' hSw
                        obtain ⟨hc0, hz0, hc1, hc2, hc3, hz1⟩ := hSw
                        first | (go_simp; done) | (go_simp; with_reducible rfl) | (go_simp; rw [IntKind.wrap_i64]; omega) | (go_simp; omega)
                      simp only [Act.put, List.setIfInBounds_toArray, List.set_cons_zero, List.set_cons_succ]
                      refine wpAnyH_take (i := 3) (v := .slice (some ⟨g, o, none⟩) nb bc) rfl (by kernel_rfl) (by kernel_rfl) (by kernel_rfl) (fun _ _ _ h => h) (Or.inl ⟨by kernel_rfl, ?_⟩) hHeld ?_
                      · intro w' hSw
                        obtain ⟨hc0, hz0, hc1, hc2, hc3, hz1⟩ := hSw
                        first | (go_simp; done) | (go_simp; with_reducible rfl) | (go_simp; rw [IntKind.wrap_i64]; omega) | (go_simp; omega)
                      simp only [Act.put, List.setIfInBounds_toArray, List.set_cons_zero, List.set_cons_succ]
                      refine wpAnyH_take (i := 4) (v := .int .i64 (k : Int)) rfl (by kernel_rfl) (by kernel_rfl) (by kernel_rfl) (fun _ _ _ h => h) (Or.inl ⟨by kernel_rfl, ?_⟩) hHeld ?_
                      · intro w' hSw
                        obtain ⟨hc0, hz0, hc1, hc2, hc3, hz1⟩ := hSw
                        first | (go_simp; done) | (go_simp; with_reducible rfl) | (go_simp; rw [IntKind.wrap_i64]; omega) | (go_simp; omega)
                      simp only [Act.put, List.setIfInBounds_toArray, List.set_cons_zero, List.set_cons_succ]
                      refine wpAnyH_take (i := 5) (v := .pointer (some ⟨g, o + k * 3, none⟩)) rfl (by kernel_rfl) (by kernel_rfl) (by kernel_rfl) (fun _ _ _ h => h) (Or.inl ⟨by kernel_rfl, ?_⟩) hHeld ?_
                      · intro w' hSw
                        obtain ⟨hc0, hz0, hc1, hc2, hc3, hz1⟩ := hSw
                        first | (go_simp; done) | (go_simp; with_reducible rfl) | (go_simp; rw [IntKind.wrap_i64]; omega) | (go_simp; omega)
                      simp only [Act.put, List.setIfInBounds_toArray, List.set_cons_zero, List.set_cons_succ]
                      refine wpAnyH_take (i := 6) (v := .agg #[.int .i64 x, .int .i64 y, .slice a kk e]) rfl (by kernel_rfl) (by kernel_rfl) (by kernel_rfl) (fun _ _ _ h => h) (Or.inl ⟨by kernel_rfl, ?_⟩) hHeld ?_
                      · intro w' hSw
                        obtain ⟨hc0, hz0, hc1, hc2, hc3, hz1⟩ := hSw
                        first | (go_simp; done) | (go_simp; with_reducible rfl) | (go_simp; rw [IntKind.wrap_i64]; omega) | (go_simp; omega)
                      simp only [Act.put, List.setIfInBounds_toArray, List.set_cons_zero, List.set_cons_succ]
                      refine wpAnyH_ready (rs := [1, 7]) (by kernel_rfl) (by simp) ?_
                      refine (AllReadyH.cons rfl (fun KK hK => ?_) (AllReadyH.cons rfl (fun KK hK => ?_) AllReadyH.nil))
                      · have hl_ := HO0.out.2.2 0 _ rfl
                        have hg_ := HO0.out.1
                        go_simp
                        clear hl_ hg_
                        refine hK.out _ _ (HA0.out) (fun hHeld => ?_)
                        clear hK KK
                        refine wpAnyH_ready (rs := [7]) (by kernel_rfl) (by simp) ?_
                        refine (AllReadyH.cons rfl (fun KK hK => ?_) AllReadyH.nil)
                        go_simp
                        obtain ⟨r2_2, hv_⟩ : ∃ z, z = r2.alloc (.cells #[.int .i64 x, .int .i64 y, .slice a kk e] 44) := ⟨_, rfl⟩
                        rw [← hv_]
                        obtain ⟨lb, hlb⟩ : ∃ z, z = r2.heap.size := ⟨_, rfl⟩
                        have b_ : Below r2.heap.size r2 r2_2 := by rw [hv_]; exact below0 _ _
                        have LB0 : r2_2.cell? ⟨lb, 0, none⟩ = some (.int .i64 x) := by rw [hv_, hlb]; simp [go_sem]
                        have LB1 : r2_2.cell? ⟨lb, 1, none⟩ = some (.int .i64 y) := by rw [hv_, hlb]; simp [go_sem]
                        have LB2 : r2_2.cell? ⟨lb, 2, none⟩ = some (.slice a kk e) := by rw [hv_, hlb]; simp [go_sem]
                        replace HC0 : Hid (GrC r2_2 gN gB gP p s n c t m d (some ⟨g, o, none⟩) nb bc id pl vs kp vc) := HC0.out.below b_
                        replace HU0 : Hid (Blk r2_2 gU [.slice none 0 0]) := HU0.out.below b_
                        replace HO0 : Hid (Blk r2_2 gO [.slice (some ⟨g9, 0, none⟩) (mo + 1) cap9]) := HO0.out.below b_
                        replace HPT0 : Hid (PtS (gO + 1) w r2_2 (.slice (some ⟨g9, 0, none⟩) (mo + 1) cap9) (mo + 1) (inF q id X) (inF q pl Y) (inF q kp K) (inF q vp V)) := HPT0.out.below b_
                        replace HW0 : Hid (Below w.heap.size w r2_2) := HW0.out.trans (b_.mono HW0.out.size)
                        replace HA0 : Hid (ArgC r2_2 gB (.slice (some ⟨g, o, none⟩) nb bc) g (o + k * 3) x y (.slice a kk e)) := HA0.out.below b_
                        replace y90 : gO + 1 ≤ r2_2.heap.size := Nat.le_trans y90 b_.size
                        try rw [← hlb]
                        clear hv_ hlb b_
                        refine hK.out _ _ (HA0.out) (fun hHeld => ?_)
                        clear hK KK
                        refine wpAnyH_ready (rs := [8]) (by kernel_rfl) (by simp) ?_
                        refine (AllReadyH.cons rfl (fun KK hK => ?_) AllReadyH.nil)
                        refine wp_PermitS (gO + 1) (.slice (some ⟨g9, 0, none⟩) (mo + 1) cap9) (mo + 1) (inF q id X) (inF q pl Y) (inF q kp K) (inF q vp V) (.tmp 100) (.tmp 106) (by rfl) (by rfl) lb (by rfl) HPT0.out LB0 LB1 LB2 HIX.out.1 HIX.out.2.1 HIX.out.2.2.1 (by rw [HIX.out.2.2.2]; exact HRA.out) (by omega) y90 ?_
                        intro g8 cap8 r2_3 l9 b9 k9
                        have HPT9 : Hid (PtS (gO + 1) w r2_3 (.slice (some ⟨g8, 0, none⟩) ((mo + 1) + 1) cap8) ((mo + 1) + 1) (inF q id X) (inF q pl Y) (inF q kp K) (inF q vp V)) := l9
                        have HC9 : Hid (GrC r2_3 gN gB gP p s n c t m d (some ⟨g, o, none⟩) nb bc id pl vs kp vc) := HC0.out.belowB b9 (by omega) (by omega) (by omega)
                        have HU9 : Hid (Blk r2_3 gU [.slice none 0 0]) := HU0.out.belowB b9 (by omega)
                        have HO9 : Hid (Blk r2_3 gO [.slice (some ⟨g9, 0, none⟩) (mo + 1) cap9]) := HO0.out.belowB b9 (by omega)
                        have HA9 : Hid (ArgC r2_3 gB (.slice (some ⟨g, o, none⟩) nb bc) g (o + k * 3) x y (.slice a kk e)) := HA0.out.belowB b9 (by omega) (by omega)
                        have HW9 : Hid (Below w.heap.size w r2_3) := HW0.out.trans (b9.mono (by omega))
                        have y99 : gO + 1 ≤ r2_3.heap.size := Nat.le_trans y90 b9.size
                        clear l9 b9 k9 LB0 LB1 LB2 HPT0 HC0 HU0 HO0 HA0 HW0
                        go_simp
                        refine hK.out _ _ (HA9.out) (fun hHeld => ?_)
                        clear hK KK
                        refine wpAnyH_take (i := 9) (v := .pointer (some ⟨gO, 0, none⟩)) rfl (by kernel_rfl) (by kernel_rfl) (by kernel_rfl) (fun _ _ _ h => h) (Or.inl ⟨by kernel_rfl, ?_⟩) hHeld ?_
                        · intro w' hSw
                          obtain ⟨hc0, hz0, hc1, hc2, hc3, hz1⟩ := hSw
                          first | (go_simp; done) | (go_simp; with_reducible rfl) | (go_simp; rw [IntKind.wrap_i64]; omega) | (go_simp; omega)
                        simp only [Act.put, List.setIfInBounds_toArray, List.set_cons_zero, List.set_cons_succ]
                        refine wpAnyH_ready (rs := [10]) (by kernel_rfl) (by simp) ?_
                        refine (AllReadyH.cons rfl (fun KK hK => ?_) AllReadyH.nil)
                        have hl_ := HO9.out.2.2 0 _ rfl
                        have hf_ := HO9.out.2.1 0
                        have hg_ := HO9.out.1
                        have hst := store_slT
                        go_simp
                        obtain ⟨r2_4, hv_⟩ : ∃ z, z = r2_3.setCell ⟨gO, 0, none⟩ (.slice (some ⟨g8, 0, none⟩) ((mo + 1) + 1) cap8) := ⟨_, rfl⟩
                        rw [← hv_]
                        have bs_ : Beside gO r2_3 r2_4 := by rw [hv_]; exact Beside.setCell gO _ _ _
                        have HO8 : Hid (Blk r2_4 gO [.slice (some ⟨g8, 0, none⟩) ((mo + 1) + 1) cap8]) := by rw [hv_]; exact HO9.out.set 0 _
                        have HPT8 : Hid (PtS (gO + 1) w r2_4 (.slice (some ⟨g8, 0, none⟩) ((mo + 1) + 1) cap8) ((mo + 1) + 1) (inF q id X) (inF q pl Y) (inF q kp K) (inF q vp V)) := HPT9.out.beside bs_ (by omega)
                        have HC8 : Hid (GrC r2_4 gN gB gP p s n c t m d (some ⟨g, o, none⟩) nb bc id pl vs kp vc) := HC9.out.beside bs_ (by omega) (by omega) (by omega)
                        have HU8 : Hid (Blk r2_4 gU [.slice none 0 0]) := HU9.out.beside bs_ (by omega)
                        have HA8 : Hid (ArgC r2_4 gB (.slice (some ⟨g, o, none⟩) nb bc) g (o + k * 3) x y (.slice a kk e)) := HA9.out.beside bs_ (by omega) (by omega)
                        have HW8 : Hid (Below w.heap.size w r2_4) := HW9.out.trans (bs_.below (by omega) HW9.out.size)
                        have y98 : gO + 1 ≤ r2_4.heap.size := Nat.le_trans y99 bs_.2.2.2.1
                        clear hv_ bs_ hl_ hf_ hg_ hst HO9 HPT9 HC9 HU9 HA9 HW9 y99
                        refine hK.out _ _ (HA8.out) (fun hHeld => ?_)
                        clear hK KK
                        refine wpAnyH_done (by kernel_rfl) ?_ _
                        clear hHeld
                        go_wp2
                        go_roundw
                        case rel => exact ⟨k + 1, (mo + 1) + 1, cap8, some ⟨g8, 0, none⟩, true, by omega, (by have := HMK.out; omega), rfl, by go_num, HLB1, HM1, HC8, HU8, HO8, HPT8, HW8, y98⟩
                        case measure => first | (simp [intOf]; done) | (simp [intOf]; omega)
                      · go_simp
                        obtain ⟨r2_5, hv_⟩ : ∃ z, z = r2.alloc (.cells #[.int .i64 x, .int .i64 y, .slice a kk e] 44) := ⟨_, rfl⟩
                        rw [← hv_]
                        obtain ⟨lb, hlb⟩ : ∃ z, z = r2.heap.size := ⟨_, rfl⟩
                        have b_ : Below r2.heap.size r2 r2_5 := by rw [hv_]; exact below0 _ _
                        have LB0 : r2_5.cell? ⟨lb, 0, none⟩ = some (.int .i64 x) := by rw [hv_, hlb]; simp [go_sem]
                        have LB1 : r2_5.cell? ⟨lb, 1, none⟩ = some (.int .i64 y) := by rw [hv_, hlb]; simp [go_sem]
                        have LB2 : r2_5.cell? ⟨lb, 2, none⟩ = some (.slice a kk e) := by rw [hv_, hlb]; simp [go_sem]
                        replace HC0 : Hid (GrC r2_5 gN gB gP p s n c t m d (some ⟨g, o, none⟩) nb bc id pl vs kp vc) := HC0.out.below b_
                        replace HU0 : Hid (Blk r2_5 gU [.slice none 0 0]) := HU0.out.below b_
                        replace HO0 : Hid (Blk r2_5 gO [.slice (some ⟨g9, 0, none⟩) (mo + 1) cap9]) := HO0.out.below b_
                        replace HPT0 : Hid (PtS (gO + 1) w r2_5 (.slice (some ⟨g9, 0, none⟩) (mo + 1) cap9) (mo + 1) (inF q id X) (inF q pl Y) (inF q kp K) (inF q vp V)) := HPT0.out.below b_
                        replace HW0 : Hid (Below w.heap.size w r2_5) := HW0.out.trans (b_.mono HW0.out.size)
                        replace HA0 : Hid (ArgC r2_5 gB (.slice (some ⟨g, o, none⟩) nb bc) g (o + k * 3) x y (.slice a kk e)) := HA0.out.below b_
                        replace y90 : gO + 1 ≤ r2_5.heap.size := Nat.le_trans y90 b_.size
                        try rw [← hlb]
                        clear hv_ hlb b_
                        refine hK.out _ _ (HA0.out) (fun hHeld => ?_)
                        clear hK KK
                        refine wpAnyH_ready (rs := [1]) (by kernel_rfl) (by simp) ?_
                        refine (AllReadyH.cons rfl (fun KK hK => ?_) AllReadyH.nil)
                        have hl_ := HO0.out.2.2 0 _ rfl
                        have hg_ := HO0.out.1
                        go_simp
                        clear hl_ hg_
                        refine hK.out _ _ (HA0.out) (fun hHeld => ?_)
                        clear hK KK
                        refine wpAnyH_ready (rs := [8]) (by kernel_rfl) (by simp) ?_
                        refine (AllReadyH.cons rfl (fun KK hK => ?_) AllReadyH.nil)
                        refine wp_PermitS (gO + 1) (.slice (some ⟨g9, 0, none⟩) (mo + 1) cap9) (mo + 1) (inF q id X) (inF q pl Y) (inF q kp K) (inF q vp V) (.tmp 100) (.tmp 106) (by rfl) (by rfl) lb (by rfl) HPT0.out LB0 LB1 LB2 HIX.out.1 HIX.out.2.1 HIX.out.2.2.1 (by rw [HIX.out.2.2.2]; exact HRA.out) (by omega) y90 ?_
                        intro g8 cap8 r2_7 l9 b9 k9
                        have HPT9 : Hid (PtS (gO + 1) w r2_7 (.slice (some ⟨g8, 0, none⟩) ((mo + 1) + 1) cap8) ((mo + 1) + 1) (inF q id X) (inF q pl Y) (inF q kp K) (inF q vp V)) := l9
                        have HC9 : Hid (GrC r2_7 gN gB gP p s n c t m d (some ⟨g, o, none⟩) nb bc id pl vs kp vc) := HC0.out.belowB b9 (by omega) (by omega) (by omega)
                        have HU9 : Hid (Blk r2_7 gU [.slice none 0 0]) := HU0.out.belowB b9 (by omega)
                        have HO9 : Hid (Blk r2_7 gO [.slice (some ⟨g9, 0, none⟩) (mo + 1) cap9]) := HO0.out.belowB b9 (by omega)
                        have HA9 : Hid (ArgC r2_7 gB (.slice (some ⟨g, o, none⟩) nb bc) g (o + k * 3) x y (.slice a kk e)) := HA0.out.belowB b9 (by omega) (by omega)
                        have HW9 : Hid (Below w.heap.size w r2_7) := HW0.out.trans (b9.mono (by omega))
                        have y99 : gO + 1 ≤ r2_7.heap.size := Nat.le_trans y90 b9.size
                        clear l9 b9 k9 LB0 LB1 LB2 HPT0 HC0 HU0 HO0 HA0 HW0
                        go_simp
                        refine hK.out _ _ (HA9.out) (fun hHeld => ?_)
                        clear hK KK
                        refine wpAnyH_take (i := 9) (v := .pointer (some ⟨gO, 0, none⟩)) rfl (by kernel_rfl) (by kernel_rfl) (by kernel_rfl) (fun _ _ _ h => h) (Or.inl ⟨by kernel_rfl, ?_⟩) hHeld ?_
                        · intro w' hSw
                          obtain ⟨hc0, hz0, hc1, hc2, hc3, hz1⟩ := hSw
                          first | (go_simp; done) | (go_simp; with_reducible rfl) | (go_simp; rw [IntKind.wrap_i64]; omega) | (go_simp; omega)
                        simp only [Act.put, List.setIfInBounds_toArray, List.set_cons_zero, List.set_cons_succ]
                        refine wpAnyH_ready (rs := [10]) (by kernel_rfl) (by simp) ?_
                        refine (AllReadyH.cons rfl (fun KK hK => ?_) AllReadyH.nil)
                        have hl_ := HO9.out.2.2 0 _ rfl
                        have hf_ := HO9.out.2.1 0
                        have hg_ := HO9.out.1
                        have hst := store_slT
                        go_simp
                        obtain ⟨r2_8, hv_⟩ : ∃ z, z = r2_7.setCell ⟨gO, 0, none⟩ (.slice (some ⟨g8, 0, none⟩) ((mo + 1) + 1) cap8) := ⟨_, rfl⟩
                        rw [← hv_]
                        have bs_ : Beside gO r2_7 r2_8 := by rw [hv_]; exact Beside.setCell gO _ _ _
                        have HO8 : Hid (Blk r2_8 gO [.slice (some ⟨g8, 0, none⟩) ((mo + 1) + 1) cap8]) := by rw [hv_]; exact HO9.out.set 0 _
                        have HPT8 : Hid (PtS (gO + 1) w r2_8 (.slice (some ⟨g8, 0, none⟩) ((mo + 1) + 1) cap8) ((mo + 1) + 1) (inF q id X) (inF q pl Y) (inF q kp K) (inF q vp V)) := HPT9.out.beside bs_ (by omega)
                        have HC8 : Hid (GrC r2_8 gN gB gP p s n c t m d (some ⟨g, o, none⟩) nb bc id pl vs kp vc) := HC9.out.beside bs_ (by omega) (by omega) (by omega)
                        have HU8 : Hid (Blk r2_8 gU [.slice none 0 0]) := HU9.out.beside bs_ (by omega)
                        have HA8 : Hid (ArgC r2_8 gB (.slice (some ⟨g, o, none⟩) nb bc) g (o + k * 3) x y (.slice a kk e)) := HA9.out.beside bs_ (by omega) (by omega)
                        have HW8 : Hid (Below w.heap.size w r2_8) := HW9.out.trans (bs_.below (by omega) HW9.out.size)
                        have y98 : gO + 1 ≤ r2_8.heap.size := Nat.le_trans y99 bs_.2.2.2.1
                        clear hv_ bs_ hl_ hf_ hg_ hst HO9 HPT9 HC9 HU9 HA9 HW9 y99
                        refine hK.out _ _ (HA8.out) (fun hHeld => ?_)
                        clear hK KK
                        refine wpAnyH_done (by kernel_rfl) ?_ _
                        clear hHeld
                        go_wp2
                        go_roundw
                        case rel => exact ⟨k + 1, (mo + 1) + 1, cap8, some ⟨g8, 0, none⟩, true, by omega, (by have := HMK.out; omega), rfl, by go_num, HLB1, HM1, HC8, HU8, HO8, HPT8, HW8, y98⟩
                        case measure => first | (simp [intOf]; done) | (simp [intOf]; omega)
                    · have hlb : lb = true := by rw [HLB.out]; exact decide_eq_true (by omega)
                      have HMK : Hid (mo = k + 1) := by show _ = _; have := HM.out; rw [if_neg (by omega)] at this; exact this
                      have gq : q < mo := by rw [HMK.out]; omega
                      have HIX : Hid (inF q id X mo = x ∧ inF q pl Y mo = y ∧ inF q kp K mo = kk ∧ inF q vp V mo = V k) := by rw [inF_gt gq, inF_gt gq, inF_gt gq, inF_gt gq, HMK.out, Nat.add_sub_cancel]; exact ⟨HX.out.1, HX.out.2.1, HX.out.2.2, rfl⟩
                      have HM1 : Hid (mo + 1 = if k + 1 ≤ q then k + 1 else k + 1 + 1) := by show _ = _; rw [if_neg (by omega), HMK.out]
                      have HLB1 : Hid (true = decide (q < k + 1)) := (decide_eq_true (by omega)).symm
                      subst hlb
                      clear hq gq
                      obtain ⟨d0, d1, d2, dz, e0, ez, f0, f1, f2, fz⟩ := HC.out
                      obtain ⟨-, -, c0, c1, c2, zg⟩ := HA.out
                      go_upto_region 23 with fail
                      go_quiet (fail)
                      clear d0 d1 d2 dz e0 ez f0 f1 f2 fz c0 c1 c2 zg
                      obtain ⟨w2, hw2⟩ : ∃ z, z = wr.drewN nq := ⟨_, rfl⟩
                      rw [← hw2]
                      have b2 : Below wr.heap.size wr w2 := by rw [hw2]; exact below_drewN wr nq
                      have HC2 : Hid (GrC w2 gN gB gP p s n c t m d (some ⟨g, o, none⟩) nb bc id pl vs kp vc) := HC.out.below b2
                      have HU2 : Hid (Blk w2 gU [.slice none 0 0]) := HU.out.below b2
                      have HO2 : Hid (Blk w2 gO [.slice tv mo cv]) := HO.out.below b2
                      have HPT2 : Hid (PtS (gO + 1) w w2 (.slice tv mo cv) mo (inF q id X) (inF q pl Y) (inF q kp K) (inF q vp V)) := HPT.out.below b2
                      have HW2 : Hid (Below w.heap.size w w2) := HW.out.trans (b2.mono HW.out.size)
                      have HA2 : Hid (ArgC w2 gB (.slice (some ⟨g, o, none⟩) nb bc) g (o + k * 3) x y (.slice a kk e)) := HA.out.below b2
                      have y92 : gO + 1 ≤ w2.heap.size := Nat.le_trans y9 b2.size
                      clear hw2 b2 nq HC HU HO HPT HW HA y9
                      go_upto_region 26 with fail
                      refine wp_region_held_drew (S := fun w' => ArgC w' gB (.slice (some ⟨g, o, none⟩) nb bc) g (o + k * 3) x y (.slice a kk e)) (by kernel_rfl) ?_ (fun hHeld => ?_)
                      · exact HA2.out
                      obtain ⟨r3, hv0⟩ : ∃ z, z = w2.drew := ⟨_, rfl⟩
                      try rw [← hv0] at hHeld
                      rw [← hv0]
                      have bv0 : Below w2.heap.size w2 r3 := by rw [hv0]; exact Below.drew (Below.refl _ _)
                      clear hv0
                      have HC0 : Hid (GrC r3 gN gB gP p s n c t m d (some ⟨g, o, none⟩) nb bc id pl vs kp vc) := HC2.out.below bv0
                      have HU0 : Hid (Blk r3 gU [.slice none 0 0]) := HU2.out.below bv0
                      have HO0 : Hid (Blk r3 gO [.slice tv mo cv]) := HO2.out.below bv0
                      have HPT0 : Hid (PtS (gO + 1) w r3 (.slice tv mo cv) mo (inF q id X) (inF q pl Y) (inF q kp K) (inF q vp V)) := HPT2.out.below bv0
                      have HW0 : Hid (Below w.heap.size w r3) := HW2.out.trans (bv0.mono HW2.out.size)
                      have HA0 : Hid (ArgC r3 gB (.slice (some ⟨g, o, none⟩) nb bc) g (o + k * 3) x y (.slice a kk e)) := HA2.out.below bv0
                      have y90 : gO + 1 ≤ r3.heap.size := Nat.le_trans y92 bv0.size
                      clear bv0 HC2 HU2 HO2 HPT2 HW2 HA2 y92
                      refine wpAnyH_take (i := 0) (v := .pointer (some ⟨gO, 0, none⟩)) rfl (by kernel_rfl) (by kernel_rfl) (by kernel_rfl) (fun _ _ _ h => h) (Or.inl ⟨by kernel_rfl, ?_⟩) hHeld ?_
                      · intro w' hSw
                        obtain ⟨hc0, hz0, hc1, hc2, hc3, hz1⟩ := hSw
                        first | (go_simp; done) | (go_simp; with_reducible rfl) | (go_simp; rw [IntKind.wrap_i64]; omega) | (go_simp; omega)
                      simp only [Act.put, List.setIfInBounds_toArray, List.set_cons_zero, List.set_cons_succ]
                      refine wpAnyH_take (i := 2) (v := .pointer (some ⟨gB, 0, none⟩)) rfl (by kernel_rfl) (by kernel_rfl) (by kernel_rfl) (fun _ _ _ h => h) (Or.inl ⟨by kernel_rfl, ?_⟩) hHeld ?_
                      · intro w' hSw
                        obtain ⟨hc0, hz0, hc1, hc2, hc3, hz1⟩ := hSw
                        first | (go_simp; done) | (go_simp; with_reducible rfl) | (go_simp; rw [IntKind.wrap_i64]; omega) | (go_simp; omega)
                      simp only [Act.put, List.setIfInBounds_toArray, List.set_cons_zero, List.set_cons_succ]
                      refine wpAnyH_take (i := 3) (v := .slice (some ⟨g, o, none⟩) nb bc) rfl (by kernel_rfl) (by kernel_rfl) (by kernel_rfl) (fun _ _ _ h => h) (Or.inl ⟨by kernel_rfl, ?_⟩) hHeld ?_
                      · intro w' hSw
                        obtain ⟨hc0, hz0, hc1, hc2, hc3, hz1⟩ := hSw
                        first | (go_simp; done) | (go_simp; with_reducible rfl) | (go_simp; rw [IntKind.wrap_i64]; omega) | (go_simp; omega)
                      simp only [Act.put, List.setIfInBounds_toArray, List.set_cons_zero, List.set_cons_succ]
                      refine wpAnyH_take (i := 4) (v := .int .i64 (k : Int)) rfl (by kernel_rfl) (by kernel_rfl) (by kernel_rfl) (fun _ _ _ h => h) (Or.inl ⟨by kernel_rfl, ?_⟩) hHeld ?_
                      · intro w' hSw
                        obtain ⟨hc0, hz0, hc1, hc2, hc3, hz1⟩ := hSw
                        first | (go_simp; done) | (go_simp; with_reducible rfl) | (go_simp; rw [IntKind.wrap_i64]; omega) | (go_simp; omega)
                      simp only [Act.put, List.setIfInBounds_toArray, List.set_cons_zero, List.set_cons_succ]
                      refine wpAnyH_take (i := 5) (v := .pointer (some ⟨g, o + k * 3, none⟩)) rfl (by kernel_rfl) (by kernel_rfl) (by kernel_rfl) (fun _ _ _ h => h) (Or.inl ⟨by kernel_rfl, ?_⟩) hHeld ?_
                      · intro w' hSw
                        obtain ⟨hc0, hz0, hc1, hc2, hc3, hz1⟩ := hSw
                        first | (go_simp; done) | (go_simp; with_reducible rfl) | (go_simp; rw [IntKind.wrap_i64]; omega) | (go_simp; omega)
                      simp only [Act.put, List.setIfInBounds_toArray, List.set_cons_zero, List.set_cons_succ]
                      refine wpAnyH_take (i := 6) (v := .agg #[.int .i64 x, .int .i64 y, .slice a kk e]) rfl (by kernel_rfl) (by kernel_rfl) (by kernel_rfl) (fun _ _ _ h => h) (Or.inl ⟨by kernel_rfl, ?_⟩) hHeld ?_
                      · intro w' hSw
                        obtain ⟨hc0, hz0, hc1, hc2, hc3, hz1⟩ := hSw
                        first | (go_simp; done) | (go_simp; with_reducible rfl) | (go_simp; rw [IntKind.wrap_i64]; omega) | (go_simp; omega)
                      simp only [Act.put, List.setIfInBounds_toArray, List.set_cons_zero, List.set_cons_succ]
                      refine wpAnyH_ready (rs := [1, 7]) (by kernel_rfl) (by simp) ?_
                      refine (AllReadyH.cons rfl (fun KK hK => ?_) (AllReadyH.cons rfl (fun KK hK => ?_) AllReadyH.nil))
                      · have hl_ := HO0.out.2.2 0 _ rfl
                        have hg_ := HO0.out.1
                        go_simp
                        clear hl_ hg_
                        refine hK.out _ _ (HA0.out) (fun hHeld => ?_)
                        clear hK KK
                        refine wpAnyH_ready (rs := [7]) (by kernel_rfl) (by simp) ?_
                        refine (AllReadyH.cons rfl (fun KK hK => ?_) AllReadyH.nil)
                        go_simp
                        obtain ⟨r3_2, hv_⟩ : ∃ z, z = r3.alloc (.cells #[.int .i64 x, .int .i64 y, .slice a kk e] 44) := ⟨_, rfl⟩
                        rw [← hv_]
                        obtain ⟨lb, hlb⟩ : ∃ z, z = r3.heap.size := ⟨_, rfl⟩
                        have b_ : Below r3.heap.size r3 r3_2 := by rw [hv_]; exact below0 _ _
                        have LB0 : r3_2.cell? ⟨lb, 0, none⟩ = some (.int .i64 x) := by rw [hv_, hlb]; simp [go_sem]
                        have LB1 : r3_2.cell? ⟨lb, 1, none⟩ = some (.int .i64 y) := by rw [hv_, hlb]; simp [go_sem]
                        have LB2 : r3_2.cell? ⟨lb, 2, none⟩ = some (.slice a kk e) := by rw [hv_, hlb]; simp [go_sem]
                        replace HC0 : Hid (GrC r3_2 gN gB gP p s n c t m d (some ⟨g, o, none⟩) nb bc id pl vs kp vc) := HC0.out.below b_
                        replace HU0 : Hid (Blk r3_2 gU [.slice none 0 0]) := HU0.out.below b_
                        replace HO0 : Hid (Blk r3_2 gO [.slice tv mo cv]) := HO0.out.below b_
                        replace HPT0 : Hid (PtS (gO + 1) w r3_2 (.slice tv mo cv) mo (inF q id X) (inF q pl Y) (inF q kp K) (inF q vp V)) := HPT0.out.below b_
                        replace HW0 : Hid (Below w.heap.size w r3_2) := HW0.out.trans (b_.mono HW0.out.size)
                        replace HA0 : Hid (ArgC r3_2 gB (.slice (some ⟨g, o, none⟩) nb bc) g (o + k * 3) x y (.slice a kk e)) := HA0.out.below b_
                        replace y90 : gO + 1 ≤ r3_2.heap.size := Nat.le_trans y90 b_.size
                        try rw [← hlb]
                        clear hv_ hlb b_
                        refine hK.out _ _ (HA0.out) (fun hHeld => ?_)
                        clear hK KK
                        refine wpAnyH_ready (rs := [8]) (by kernel_rfl) (by simp) ?_
                        refine (AllReadyH.cons rfl (fun KK hK => ?_) AllReadyH.nil)
                        refine wp_PermitS (gO + 1) (.slice tv mo cv) mo (inF q id X) (inF q pl Y) (inF q kp K) (inF q vp V) (.tmp 100) (.tmp 106) (by rfl) (by rfl) lb (by rfl) HPT0.out LB0 LB1 LB2 HIX.out.1 HIX.out.2.1 HIX.out.2.2.1 (by rw [HIX.out.2.2.2]; exact HRA.out) (by omega) y90 ?_
                        intro g8 cap8 r3_3 l9 b9 k9
                        have HPT9 : Hid (PtS (gO + 1) w r3_3 (.slice (some ⟨g8, 0, none⟩) (mo + 1) cap8) (mo + 1) (inF q id X) (inF q pl Y) (inF q kp K) (inF q vp V)) := l9
                        have HC9 : Hid (GrC r3_3 gN gB gP p s n c t m d (some ⟨g, o, none⟩) nb bc id pl vs kp vc) := HC0.out.belowB b9 (by omega) (by omega) (by omega)
                        have HU9 : Hid (Blk r3_3 gU [.slice none 0 0]) := HU0.out.belowB b9 (by omega)
                        have HO9 : Hid (Blk r3_3 gO [.slice tv mo cv]) := HO0.out.belowB b9 (by omega)
                        have HA9 : Hid (ArgC r3_3 gB (.slice (some ⟨g, o, none⟩) nb bc) g (o + k * 3) x y (.slice a kk e)) := HA0.out.belowB b9 (by omega) (by omega)
                        have HW9 : Hid (Below w.heap.size w r3_3) := HW0.out.trans (b9.mono (by omega))
                        have y99 : gO + 1 ≤ r3_3.heap.size := Nat.le_trans y90 b9.size
                        clear l9 b9 k9 LB0 LB1 LB2 HPT0 HC0 HU0 HO0 HA0 HW0
                        go_simp
                        refine hK.out _ _ (HA9.out) (fun hHeld => ?_)
                        clear hK KK
                        refine wpAnyH_take (i := 9) (v := .pointer (some ⟨gO, 0, none⟩)) rfl (by kernel_rfl) (by kernel_rfl) (by kernel_rfl) (fun _ _ _ h => h) (Or.inl ⟨by kernel_rfl, ?_⟩) hHeld ?_
                        · intro w' hSw
                          obtain ⟨hc0, hz0, hc1, hc2, hc3, hz1⟩ := hSw
                          first | (go_simp; done) | (go_simp; with_reducible rfl) | (go_simp; rw [IntKind.wrap_i64]; omega) | (go_simp; omega)
                        simp only [Act.put, List.setIfInBounds_toArray, List.set_cons_zero, List.set_cons_succ]
                        refine wpAnyH_ready (rs := [10]) (by kernel_rfl) (by simp) ?_
                        refine (AllReadyH.cons rfl (fun KK hK => ?_) AllReadyH.nil)
                        have hl_ := HO9.out.2.2 0 _ rfl
                        have hf_ := HO9.out.2.1 0
                        have hg_ := HO9.out.1
                        have hst := store_slT
                        go_simp
                        obtain ⟨r3_4, hv_⟩ : ∃ z, z = r3_3.setCell ⟨gO, 0, none⟩ (.slice (some ⟨g8, 0, none⟩) (mo + 1) cap8) := ⟨_, rfl⟩
                        rw [← hv_]
                        have bs_ : Beside gO r3_3 r3_4 := by rw [hv_]; exact Beside.setCell gO _ _ _
                        have HO8 : Hid (Blk r3_4 gO [.slice (some ⟨g8, 0, none⟩) (mo + 1) cap8]) := by rw [hv_]; exact HO9.out.set 0 _
                        have HPT8 : Hid (PtS (gO + 1) w r3_4 (.slice (some ⟨g8, 0, none⟩) (mo + 1) cap8) (mo + 1) (inF q id X) (inF q pl Y) (inF q kp K) (inF q vp V)) := HPT9.out.beside bs_ (by omega)
                        have HC8 : Hid (GrC r3_4 gN gB gP p s n c t m d (some ⟨g, o, none⟩) nb bc id pl vs kp vc) := HC9.out.beside bs_ (by omega) (by omega) (by omega)
                        have HU8 : Hid (Blk r3_4 gU [.slice none 0 0]) := HU9.out.beside bs_ (by omega)
                        have HA8 : Hid (ArgC r3_4 gB (.slice (some ⟨g, o, none⟩) nb bc) g (o + k * 3) x y (.slice a kk e)) := HA9.out.beside bs_ (by omega) (by omega)
                        have HW8 : Hid (Below w.heap.size w r3_4) := HW9.out.trans (bs_.below (by omega) HW9.out.size)
                        have y98 : gO + 1 ≤ r3_4.heap.size := Nat.le_trans y99 bs_.2.2.2.1
                        clear hv_ bs_ hl_ hf_ hg_ hst HO9 HPT9 HC9 HU9 HA9 HW9 y99
                        refine hK.out _ _ (HA8.out) (fun hHeld => ?_)
                        clear hK KK
                        refine wpAnyH_done (by kernel_rfl) ?_ _
                        clear hHeld
                        go_wp2
                        go_roundw
                        case rel => exact ⟨k + 1, mo + 1, cap8, some ⟨g8, 0, none⟩, true, by omega, (by have := HMK.out; omega), rfl, by go_num, HLB1, HM1, HC8, HU8, HO8, HPT8, HW8, y98⟩
                        case measure => first | (simp [intOf]; done) | (simp [intOf]; omega)
                      · go_simp
                        obtain ⟨r3_5, hv_⟩ : ∃ z, z = r3.alloc (.cells #[.int .i64 x, .int .i64 y, .slice a kk e] 44) := ⟨_, rfl⟩
                        rw [← hv_]
                        obtain ⟨lb, hlb⟩ : ∃ z, z = r3.heap.size := ⟨_, rfl⟩
                        have b_ : Below r3.heap.size r3 r3_5 := by rw [hv_]; exact below0 _ _
                        have LB0 : r3_5.cell? ⟨lb, 0, none⟩ = some (.int .i64 x) := by rw [hv_, hlb]; simp [go_sem]
                        have LB1 : r3_5.cell? ⟨lb, 1, none⟩ = some (.int .i64 y) := by rw [hv_, hlb]; simp [go_sem]
                        have LB2 : r3_5.cell? ⟨lb, 2, none⟩ = some (.slice a kk e) := by rw [hv_, hlb]; simp [go_sem]
                        replace HC0 : Hid (GrC r3_5 gN gB gP p s n c t m d (some ⟨g, o, none⟩) nb bc id pl vs kp vc) := HC0.out.below b_
                        replace HU0 : Hid (Blk r3_5 gU [.slice none 0 0]) := HU0.out.below b_
                        replace HO0 : Hid (Blk r3_5 gO [.slice tv mo cv]) := HO0.out.below b_
                        replace HPT0 : Hid (PtS (gO + 1) w r3_5 (.slice tv mo cv) mo (inF q id X) (inF q pl Y) (inF q kp K) (inF q vp V)) := HPT0.out.below b_
                        replace HW0 : Hid (Below w.heap.size w r3_5) := HW0.out.trans (b_.mono HW0.out.size)
                        replace HA0 : Hid (ArgC r3_5 gB (.slice (some ⟨g, o, none⟩) nb bc) g (o + k * 3) x y (.slice a kk e)) := HA0.out.below b_
                        replace y90 : gO + 1 ≤ r3_5.heap.size := Nat.le_trans y90 b_.size
                        try rw [← hlb]
                        clear hv_ hlb b_
                        refine hK.out _ _ (HA0.out) (fun hHeld => ?_)
                        clear hK KK
                        refine wpAnyH_ready (rs := [1]) (by kernel_rfl) (by simp) ?_
                        refine (AllReadyH.cons rfl (fun KK hK => ?_) AllReadyH.nil)
                        have hl_ := HO0.out.2.2 0 _ rfl
                        have hg_ := HO0.out.1
                        go_simp
                        clear hl_ hg_
                        refine hK.out _ _ (HA0.out) (fun hHeld => ?_)
                        clear hK KK
                        refine wpAnyH_ready (rs := [8]) (by kernel_rfl) (by simp) ?_
                        refine (AllReadyH.cons rfl (fun KK hK => ?_) AllReadyH.nil)
                        refine wp_PermitS (gO + 1) (.slice tv mo cv) mo (inF q id X) (inF q pl Y) (inF q kp K) (inF q vp V) (.tmp 100) (.tmp 106) (by rfl) (by rfl) lb (by rfl) HPT0.out LB0 LB1 LB2 HIX.out.1 HIX.out.2.1 HIX.out.2.2.1 (by rw [HIX.out.2.2.2]; exact HRA.out) (by omega) y90 ?_
                        intro g8 cap8 r3_7 l9 b9 k9
                        have HPT9 : Hid (PtS (gO + 1) w r3_7 (.slice (some ⟨g8, 0, none⟩) (mo + 1) cap8) (mo + 1) (inF q id X) (inF q pl Y) (inF q kp K) (inF q vp V)) := l9
                        have HC9 : Hid (GrC r3_7 gN gB gP p s n c t m d (some ⟨g, o, none⟩) nb bc id pl vs kp vc) := HC0.out.belowB b9 (by omega) (by omega) (by omega)
                        have HU9 : Hid (Blk r3_7 gU [.slice none 0 0]) := HU0.out.belowB b9 (by omega)
                        have HO9 : Hid (Blk r3_7 gO [.slice tv mo cv]) := HO0.out.belowB b9 (by omega)
                        have HA9 : Hid (ArgC r3_7 gB (.slice (some ⟨g, o, none⟩) nb bc) g (o + k * 3) x y (.slice a kk e)) := HA0.out.belowB b9 (by omega) (by omega)
                        have HW9 : Hid (Below w.heap.size w r3_7) := HW0.out.trans (b9.mono (by omega))
                        have y99 : gO + 1 ≤ r3_7.heap.size := Nat.le_trans y90 b9.size
                        clear l9 b9 k9 LB0 LB1 LB2 HPT0 HC0 HU0 HO0 HA0 HW0
                        go_simp
                        refine hK.out _ _ (HA9.out) (fun hHeld => ?_)
                        clear hK KK
                        refine wpAnyH_take (i := 9) (v := .pointer (some ⟨gO, 0, none⟩)) rfl (by kernel_rfl) (by kernel_rfl) (by kernel_rfl) (fun _ _ _ h => h) (Or.inl ⟨by kernel_rfl, ?_⟩) hHeld ?_
                        · intro w' hSw
                          obtain ⟨hc0, hz0, hc1, hc2, hc3, hz1⟩ := hSw
                          first | (go_simp; done) | (go_simp; with_reducible rfl) | (go_simp; rw [IntKind.wrap_i64]; omega) | (go_simp; omega)
                        simp only [Act.put, List.setIfInBounds_toArray, List.set_cons_zero, List.set_cons_succ]
                        refine wpAnyH_ready (rs := [10]) (by kernel_rfl) (by simp) ?_
                        refine (AllReadyH.cons rfl (fun KK hK => ?_) AllReadyH.nil)
                        have hl_ := HO9.out.2.2 0 _ rfl
                        have hf_ := HO9.out.2.1 0
                        have hg_ := HO9.out.1
                        have hst := store_slT
                        go_simp
                        obtain ⟨r3_8, hv_⟩ : ∃ z, z = r3_7.setCell ⟨gO, 0, none⟩ (.slice (some ⟨g8, 0, none⟩) (mo + 1) cap8) := ⟨_, rfl⟩
                        rw [← hv_]
                        have bs_ : Beside gO r3_7 r3_8 := by rw [hv_]; exact Beside.setCell gO _ _ _
                        have HO8 : Hid (Blk r3_8 gO [.slice (some ⟨g8, 0, none⟩) (mo + 1) cap8]) := by rw [hv_]; exact HO9.out.set 0 _
                        have HPT8 : Hid (PtS (gO + 1) w r3_8 (.slice (some ⟨g8, 0, none⟩) (mo + 1) cap8) (mo + 1) (inF q id X) (inF q pl Y) (inF q kp K) (inF q vp V)) := HPT9.out.beside bs_ (by omega)
                        have HC8 : Hid (GrC r3_8 gN gB gP p s n c t m d (some ⟨g, o, none⟩) nb bc id pl vs kp vc) := HC9.out.beside bs_ (by omega) (by omega) (by omega)
                        have HU8 : Hid (Blk r3_8 gU [.slice none 0 0]) := HU9.out.beside bs_ (by omega)
                        have HA8 : Hid (ArgC r3_8 gB (.slice (some ⟨g, o, none⟩) nb bc) g (o + k * 3) x y (.slice a kk e)) := HA9.out.beside bs_ (by omega) (by omega)
                        have HW8 : Hid (Below w.heap.size w r3_8) := HW9.out.trans (bs_.below (by omega) HW9.out.size)
                        have y98 : gO + 1 ≤ r3_8.heap.size := Nat.le_trans y99 bs_.2.2.2.1
                        clear hv_ bs_ hl_ hf_ hg_ hst HO9 HPT9 HC9 HU9 HA9 HW9 y99
                        refine hK.out _ _ (HA8.out) (fun hHeld => ?_)
                        clear hK KK
                        refine wpAnyH_done (by kernel_rfl) ?_ _
                        clear hHeld
                        go_wp2
                        go_roundw
                        case rel => exact ⟨k + 1, mo + 1, cap8, some ⟨g8, 0, none⟩, true, by omega, (by have := HMK.out; omega), rfl, by go_num, HLB1, HM1, HC8, HU8, HO8, HPT8, HW8, y98⟩
                        case measure => first | (simp [intOf]; done) | (simp [intOf]; omega)
                  case neg =>
                    obtain rfl : nb = k := by omega
                    by_cases hq : q < nb
                    case pos =>
                      have hlb : lb = true := by rw [HLB.out]; exact decide_eq_true hq
                      have HMO : Hid (nb + 1 = mo) := by show _ = _; have := HM.out; rw [if_neg (by omega)] at this; exact this.symm
                      subst hlb
                      have HRt : Hid (RowPer wr tv mo (inF q id X) (inF q pl Y) (inF q kp K) (inF q vp V)) := HPT.out.row HW.out
                      have HUt : Hid (Blk wr gU [.slice none 0 0]) := HU
                      have HWt : Hid (Below w.heap.size w wr) := HW
                      have HKt : Hid (∀ i, i < mo → ((inF q kp K i : Nat) : Int) ≤ 1048576) := fun i hi => by
                        show ((inF q kp K i : Nat) : Int) ≤ 1048576
                        unfold inF
                        split
                        · exact hKs.out i (by omega)
                        · split
                          · exact hkp
                          · exact hKs.out (i - 1) (by first | omega | (have := HMO.out; omega))
                      have h1000 : ((mo : Nat) : Int) ≤ 1000 := by omega
                      obtain ⟨d0, d1, d2, dz, e0, ez, f0, f1, f2, fz⟩ := HC.out
                      have o0 := HO.out.2.2 0 _ rfl
                      have oz := HO.out.1
                      go_wp2_with fail
                      refine (l22CopyC_any tv mo cv (inF q id X) (inF q pl Y) (inF q kp K) (inF q vp V) _ h1000 HKt HRt).mono ?_
                      rintro e w5 ⟨tt, ct, rfl, hpk, h5⟩
                      have HU5 : Hid (Blk w5 gU [.slice none 0 0]) := HUt.out.below h5
                      have HPK : Hid (PtKc wr.heap.size w5 (.slice tt mo ct) mo (inF q id X) (inF q pl Y) (inF q kp K) (inF q vp V)) := hpk
                      have HW5 : Hid (Below w.heap.size w w5) := HWt.out.trans (h5.mono HWt.out.size)
                      have xw : w.heap.size ≤ wr.heap.size := HWt.out.size
                      have xu : gU < wr.heap.size := HUt.out.1
                      obtain ⟨zU, fU, cU⟩ := HU5.out
                      have y0 := cU 0 _ rfl
                      have yf := fU 0
                      have hst := store_slT
                      have bsU : Beside gU w5 (w5.setCell ⟨gU, 0, none⟩ (.slice tt mo ct)) := Beside.setCell gU _ 0 _
                      have HP6 : Hid (PtKc wr.heap.size (w5.setCell ⟨gU, 0, none⟩ (.slice tt mo ct)) (.slice tt mo ct) mo (inF q id X) (inF q pl Y) (inF q kp K) (inF q vp V)) := HPK.out.beside bsU xu
                      have HW6 : Hid (Below w.heap.size w (w5.setCell ⟨gU, 0, none⟩ (.slice tt mo ct))) := HW5.out.trans (bsU.below (by omega) HW5.out.size)
                      have s6 : Hid (w5.heap.size ≤ (w5.setCell ⟨gU, 0, none⟩ (.slice tt mo ct)).heap.size) := bsU.2.2.2.1
                      clear bsU cU fU h5 hpk HPK
                      go_wp2
                      refine bodyPost_ret (v := .tuple #[.agg #[.slice tt mo ct], .int .i64 0]) (by simp [results, Try.results12, go_sem, y0]) rfl ?_
                      refine GrAnsK.ok HOK.out HR0.out ?_
                      rw [HMO.out]
                      exact ⟨tt, ct, rfl, HP6.out.low xw, HW6.out⟩
                    case neg =>
                      have hlb : lb = false := by rw [HLB.out]; exact decide_eq_false hq
                      have hmn : nb = mo := by have := HM.out; rw [if_pos (by omega)] at this; omega
                      have HMQ : Hid (mo = q) := by show _ = _; omega
                      have HA : Hid (ArgT wr) := trivial
                      have hgw : True := trivial
                      subst hlb
                      clear hmk
                      obtain ⟨w2, hw2⟩ : ∃ z, z = wr := ⟨_, rfl⟩
                      have HC2 : Hid (GrC w2 gN gB gP p s n c t m d bs nb bc id pl vs kp vc) := by rw [hw2]; exact HC.out
                      have HU2 : Hid (Blk w2 gU [.slice none 0 0]) := by rw [hw2]; exact HU.out
                      have HO2 : Hid (Blk w2 gO [.slice tv mo cv]) := by rw [hw2]; exact HO.out
                      have HPT2 : Hid (PtS (gO + 1) w w2 (.slice tv mo cv) mo (inF q id X) (inF q pl Y) (inF q kp K) (inF q vp V)) := by rw [hw2]; exact HPT.out
                      have HW2 : Hid (Below w.heap.size w w2) := by rw [hw2]; exact HW.out
                      have y92 : gO + 1 ≤ w2.heap.size := by rw [hw2]; exact y9
                      have HA2 : Hid (ArgT w2) := trivial
                      have mo21 : mo ≤ 21 := by omega
                      have HMN : Hid (nb = mo) := hmn
                      rw [← hw2]
                      clear hw2 HC HU HO HPT HW y9 HA hmn hq
                      obtain ⟨d0, d1, d2, dz, e0, ez, f0, f1, f2, fz⟩ := HC2.out
                      have o0 := HO2.out.2.2 0 _ rfl
                      have oz := HO2.out.1
                      have HXM : Hid (inF q id X mo = id ∧ inF q pl Y mo = pl ∧ inF q kp K mo = kp ∧ inF q vp V mo = vp) := by rw [HMQ.out, inF_eq, inF_eq, inF_eq, inF_eq]; exact ⟨rfl, rfl, rfl, rfl⟩
                      go_upto_region 29 with (at_builtin; refine list_PermitT (gO + 1) (.slice tv mo cv) mo (inF q id X) (inF q pl Y) (inF q kp K) (inF q vp V) (.tmp 112) (.tmp 114) (by rfl) (by rfl) (by rfl) (by rfl) HPT2.out HXM.out.1 HXM.out.2.1 HXM.out.2.2.1 (by rw [HXM.out.2.2.2]; exact HV.out) (by omega) y92 ?_; intro g9 cap9 w9 l9 b9; have HPT9 : Hid (PtS (gO + 1) w w9 (.slice (some ⟨g9, 0, none⟩) (mo + 1) cap9) (mo + 1) (inF q id X) (inF q pl Y) (inF q kp K) (inF q vp V)) := l9; have HC9 : Hid (GrC w9 gN gB gP p s n c t m d bs nb bc id pl vs kp vc) := HC2.out.belowB b9 (by omega) (by omega) (by omega); have HU9 : Hid (Blk w9 gU [.slice none 0 0]) := HU2.out.belowB b9 (by omega); have HO9 : Hid (Blk w9 gO [.slice tv mo cv]) := HO2.out.belowB b9 (by omega); have HA9 : Hid (ArgT w9) := trivial; have HW9 : Hid (Below w.heap.size w w9) := HW2.out.trans (b9.mono (by omega)); have y99 : gO + 1 ≤ w9.heap.size := Nat.le_trans y92 b9.size; clear l9 b9; have e9 := HO9.out.2.2 0 _ rfl; have f9 := HO9.out.2.1 0; have z9 := HO9.out.1; have hst := store_slT)
                      clear d0 d1 d2 dz e0 ez f0 f1 f2 fz o0 oz HXM
                      obtain ⟨w10, hw10⟩ : ∃ z, z = w9.setCell ⟨gO, 0, none⟩ (.slice (some ⟨g9, 0, none⟩) (mo + 1) cap9) := ⟨_, rfl⟩
                      try rw [← hw10]
                      have bs_ : Beside gO w9 w10 := by rw [hw10]; exact Beside.setCell gO _ _ _
                      have HO10 : Hid (Blk w10 gO [.slice (some ⟨g9, 0, none⟩) (mo + 1) cap9]) := by rw [hw10]; exact HO9.out.set 0 _
                      have HPT10 : Hid (PtS (gO + 1) w w10 (.slice (some ⟨g9, 0, none⟩) (mo + 1) cap9) (mo + 1) (inF q id X) (inF q pl Y) (inF q kp K) (inF q vp V)) := HPT9.out.beside bs_ (by omega)
                      have HC10 : Hid (GrC w10 gN gB gP p s n c t m d bs nb bc id pl vs kp vc) := HC9.out.beside bs_ (by omega) (by omega) (by omega)
                      have HU10 : Hid (Blk w10 gU [.slice none 0 0]) := HU9.out.beside bs_ (by omega)
                      have HA10 : Hid (ArgT w10) := trivial
                      have HW10 : Hid (Below w.heap.size w w10) := HW9.out.trans (bs_.below (by omega) HW9.out.size)
                      have y910 : gO + 1 ≤ w10.heap.size := Nat.le_trans y99 bs_.2.2.2.1
                      clear hw10 bs_ e9 f9 z9 hst HPT9 HC9 HU9 HO9 HA9 HW9 y99 HC2 HU2 HO2 HPT2 HW2 HA2 y92
                      have HRt : Hid (RowPer w10 (some ⟨g9, 0, none⟩) (mo + 1) (inF q id X) (inF q pl Y) (inF q kp K) (inF q vp V)) := HPT10.out.row HW10.out
                      have HUt : Hid (Blk w10 gU [.slice none 0 0]) := HU10
                      have HWt : Hid (Below w.heap.size w w10) := HW10
                      have HKt : Hid (∀ i, i < (mo + 1) → ((inF q kp K i : Nat) : Int) ≤ 1048576) := fun i hi => by
                        show ((inF q kp K i : Nat) : Int) ≤ 1048576
                        unfold inF
                        split
                        · exact hKs.out i (by omega)
                        · split
                          · exact hkp
                          · exact hKs.out (i - 1) (by first | omega | (have := HMN.out; omega))
                      have h1000 : (((mo + 1) : Nat) : Int) ≤ 1000 := by omega
                      obtain ⟨d0, d1, d2, dz, e0, ez, f0, f1, f2, fz⟩ := HC10.out
                      have o0 := HO10.out.2.2 0 _ rfl
                      have oz := HO10.out.1
                      go_wp2_with fail
                      refine (l22CopyC_any (some ⟨g9, 0, none⟩) (mo + 1) cap9 (inF q id X) (inF q pl Y) (inF q kp K) (inF q vp V) _ h1000 HKt HRt).mono ?_
                      rintro e w5 ⟨tt, ct, rfl, hpk, h5⟩
                      have HU5 : Hid (Blk w5 gU [.slice none 0 0]) := HUt.out.below h5
                      have HPK : Hid (PtKc w10.heap.size w5 (.slice tt (mo + 1) ct) (mo + 1) (inF q id X) (inF q pl Y) (inF q kp K) (inF q vp V)) := hpk
                      have HW5 : Hid (Below w.heap.size w w5) := HWt.out.trans (h5.mono HWt.out.size)
                      have xw : w.heap.size ≤ w10.heap.size := HWt.out.size
                      have xu : gU < w10.heap.size := HUt.out.1
                      obtain ⟨zU, fU, cU⟩ := HU5.out
                      have y0 := cU 0 _ rfl
                      have yf := fU 0
                      have hst := store_slT
                      have bsU : Beside gU w5 (w5.setCell ⟨gU, 0, none⟩ (.slice tt (mo + 1) ct)) := Beside.setCell gU _ 0 _
                      have HP6 : Hid (PtKc w10.heap.size (w5.setCell ⟨gU, 0, none⟩ (.slice tt (mo + 1) ct)) (.slice tt (mo + 1) ct) (mo + 1) (inF q id X) (inF q pl Y) (inF q kp K) (inF q vp V)) := HPK.out.beside bsU xu
                      have HW6 : Hid (Below w.heap.size w (w5.setCell ⟨gU, 0, none⟩ (.slice tt (mo + 1) ct))) := HW5.out.trans (bsU.below (by omega) HW5.out.size)
                      have s6 : Hid (w5.heap.size ≤ (w5.setCell ⟨gU, 0, none⟩ (.slice tt (mo + 1) ct)).heap.size) := bsU.2.2.2.1
                      clear bsU cU fU h5 hpk HPK
                      go_wp2
                      refine bodyPost_ret (v := .tuple #[.agg #[.slice tt (mo + 1) ct], .int .i64 0]) (by simp [results, Try.results12, go_sem, y0]) rfl ?_
                      refine GrAnsK.ok HOK.out HR0.out ?_
                      rw [HMN.out]
                      exact ⟨tt, ct, rfl, HP6.out.low xw, HW6.out⟩
end Go.Proofs.Ytikcfpjfcpbfcaa
