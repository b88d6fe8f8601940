/-
What is proved: (impl.Book).copied: a book with the same permits, all of it new memory.
-/
import Derived.Test.YtikcfpjfcpbfcaaBcpz
import Derived.Test.YtikcfpjfcpbfcaaZcE
import Derived.Deep.DeepCutAuto
namespace Go.Proofs.Ytikcfpjfcpbfcaa
set_option maxRecDepth 40000
open Go.ChangeShapes Go.WideShapes Go.ChangeAt Go.RowKit
set_option linter.unusedVariables false
set_option linter.unusedSimpArgs false

theorem PcK.beside {b n k q : Nat} {w w' : World} {X Y : Nat → Int} {K : Nat → Nat} {V : Nat → Nat → Int} (h : PcK b w n k X Y K V) (hb : Beside q w w') (hq : q < b) : PcK b w' n k X Y K V := by
  obtain ⟨h1, h2, ⟨G, h3, h4⟩, h5⟩ := h
  have ce : ∀ j, w'.cell? ⟨b, j, none⟩ = w.cell? ⟨b, j, none⟩ := fun j => hb.cell (p := ⟨b, j, none⟩) h1 (by simp only; omega)
  refine ⟨Nat.lt_of_lt_of_le h1 hb.2.2.2.1, fun o => (hb.frozen (p := ⟨b, o, none⟩) h1 (by simp only; omega)).trans (h2 o), ⟨G, fun i hi => ?_, h4⟩, fun j hj => by rw [ce]; exact h5 j hj⟩
  obtain ⟨a, c, c0, c1, c2, r⟩ := h3 i hi
  refine ⟨a, c, (ce _).trans c0, (ce _).trans c1, (ce _).trans c2, fun z => ?_⟩
  obtain ⟨r1, r2, r3, r4⟩ := r z
  exact ⟨r1, r2, Nat.lt_of_lt_of_le r3 hb.2.2.2.1, fun j hj => ⟨(hb.cell (p := ⟨G i, j, none⟩) r3 (by simp only; omega)).trans (r4 j hj).1, (hb.frozen (p := ⟨G i, j, none⟩) r3 (by simp only; omega)).trans (r4 j hj).2⟩⟩
def BcqPost (w : World) (n : Nat) (X Y : Nat → Int) (K : Nat → Nat) (V : Nat → Nat → Int) (e : Ending) (w' : World) : Prop := ∃ b, e = .returned (.agg #[.slice (some ⟨b, 0, none⟩) n n]) ∧ w.heap.size ≤ b ∧ PcK b w' n n X Y K V ∧ Below w.heap.size w w'
set_option maxRecDepth 20000 in
set_option maxHeartbeats 4000000 in
theorem bookCopied_any (bs : Option Addr) (n bc : Nat) (X Y : Nat → Int) (K : Nat → Nat) (V : Nat → Nat → Int) (w : World) (hn : (n : Int) ≤ 1048576) (HK : Hid (∀ i, i < n → (K i : Int) ≤ 1048576)) (HB : Hid (RowPer w bs n X Y K V)) :
    Calls Try.prog 51 #[.agg #[.slice bs n bc]] w fun e w' => BcqPost w n X Y K V e w' := by
  have hmk := make_Permit n (by omega)
  go_enter Try.func51, Try.ntmps51
  go_upto_region 1 with fail
  obtain ⟨wa, hwa⟩ : ∃ z, z = w.alloc (.cells #[.slice bs n bc] 36) := ⟨_, rfl⟩
  obtain ⟨wb, hwb⟩ : ∃ z, z = wa.alloc (.cells #[.slice none 0 0] 36) := ⟨_, rfl⟩
  have ba : Below w.heap.size w wa := by rw [hwa]; exact below0 _ _
  have bb : Below wa.heap.size wa wb := by rw [hwb]; exact below0 _ _
  obtain ⟨p, hp⟩ : ∃ z, z = w.heap.size := ⟨_, rfl⟩
  obtain ⟨q, hq⟩ : ∃ z, z = wa.heap.size := ⟨_, rfl⟩
  have hq1 : w.heap.size + 1 = q := by rw [hq, hwa]; simp
  have zpa : p < wa.heap.size := by rw [hwa, hp]; simp
  have p0 : wb.cell? ⟨p, 0, none⟩ = some (.slice bs n bc) := (bb.cell (p := ⟨p, 0, none⟩) zpa).trans (by rw [hwa, hp]; simp [go_sem])
  have zp : p < wb.heap.size := Nat.lt_of_lt_of_le zpa bb.size
  have HQc : Hid (wb.cell? ⟨q, 0, none⟩ = some (.slice none 0 0) ∧ (∀ o, wb.frozen? ⟨q, o, none⟩ = false) ∧ q < wb.heap.size) := by
    rw [hwb, hq]
    exact ⟨by simp [go_sem], fun o => by simp [go_sem], by simp⟩
  have HBb : Hid (Below w.heap.size w wb) := ba.trans (bb.mono ba.size)
  have zqw : w.heap.size ≤ q := by omega
  try rw [← hwa]
  try rw [← hwb]
  try rw [hq1]
  try rw [← hq]
  try rw [← hp]
  obtain ⟨b, hb⟩ : ∃ z, z = wb.heap.size := ⟨_, rfl⟩
  have zqb : q < b := by rw [hb]; exact HQc.out.2.2
  have HBe : Hid (b = wb.heap.size) := hb
  clear hwa hwb ba bb hp hq hq1 zpa
  go_wp2_with fail
  try rw [← hb]
  go_loopw [13] (fun i wr => ∃ k : Nat, k ≤ n ∧ i = .int .i64 k ∧ Hid (PcK b wr n k X Y K V) ∧ Hid (Below wb.heap.size wb wr)) (fun i _ => n - (intOf i).toNat)
  case atStart => exact ⟨0, Nat.zero_le _, rfl, (by show PcK _ _ _ _ _ _ _ _; rw [hb]; exact PcK.start wb n X Y K V 44), below0 _ _⟩
  case round =>
    clear p0 zp hmk hb
    obtain ⟨k, hk, rfl, HC, HW⟩ := hrel
    have HWw : Hid (Below w.heap.size w wr) := HBb.out.trans (HW.out.mono HBb.out.size)
    by_cases h2 : k < n
    case pos =>
      have k1 : (k : Int) < (n : Int) := by omega
      obtain ⟨g, o, a, e, rfl, hg, c0, c1, c2, ha⟩ := HB.out k h2
      replace c0 := (HWw.out.cell (p := ⟨g, o + k * 3, none⟩) hg).trans c0
      replace c1 := (HWw.out.cell (p := ⟨g, o + k * 3 + 1, none⟩) hg).trans c1
      replace c2 := (HWw.out.cell (p := ⟨g, o + k * 3 + 2, none⟩) hg).trans c2
      have zg : g < wr.heap.size := Nat.lt_of_lt_of_le hg HWw.out.size
      have HA : Hid (RowI wr a (K k) (V k)) := ha.below HWw.out
      obtain ⟨x, hx⟩ : ∃ x, X k = x := ⟨_, rfl⟩
      obtain ⟨y, hy⟩ : ∃ y, Y k = y := ⟨_, rfl⟩
      have HX : Hid (X k = x ∧ Y k = y) := ⟨hx, hy⟩
      rw [hx] at c0
      rw [hy] at c1
      clear hx hy ha
      go_upto_region 5 with fail
      obtain ⟨wv, hwv⟩ : ∃ z, z = wr.alloc (.cells #[.int .i64 x, .int .i64 y, .slice a (K k) e] 44) := ⟨_, rfl⟩
      rw [← hwv]
      have bv : Below wr.heap.size wr wv := by rw [hwv]; exact below0 _ _
      obtain ⟨v, hv⟩ : ∃ z, z = wr.heap.size := ⟨_, rfl⟩
      have v0 : wv.cell? ⟨v, 0, none⟩ = some (.int .i64 x) := by rw [hwv, hv]; simp [go_sem]
      have v1 : wv.cell? ⟨v, 1, none⟩ = some (.int .i64 y) := by rw [hwv, hv]; simp [go_sem]
      have v2 : wv.cell? ⟨v, 2, none⟩ = some (.slice a (K k) e) := by rw [hwv, hv]; simp [go_sem]
      have zv : v < wv.heap.size := by rw [hwv, hv]; simp
      have HAv : Hid (RowI wv a (K k) (V k)) := HA.out.below bv
      have Hbv : Hid (Below wr.heap.size wr wv) := bv
      try rw [← hv]
      clear hwv bv hv c0 c1 c2 zg HA
      go_wp2_with fail
      refine (permitCopied_any x y a (K k) e (V k) _ (HK.out k h2) HAv).mono ?_
      rintro e' w3 ⟨s', c', rfl, O3, b3⟩
      have HO3 : Hid (OwnI wr.heap.size w3 s' (K k) (V k)) := O3.mono Hbv.out.size
      have Hb3 : Hid (Below wr.heap.size wr w3) := Hbv.out.trans (b3.mono Hbv.out.size)
      clear O3 b3 v0 v1 v2 zv
      obtain ⟨h1, hf, -, hs⟩ := HC.out.below Hb3.out
      obtain ⟨u0, e0⟩ := Option.isSome_iff_exists.1 (hs (k * 3) (by omega))
      obtain ⟨u1, e1⟩ := Option.isSome_iff_exists.1 (hs (k * 3 + 1) (by omega))
      obtain ⟨u2, e2⟩ := Option.isSome_iff_exists.1 (hs (k * 3 + 2) (by omega))
      have f0 := hf (k * 3)
      have f1 := hf (k * 3 + 1)
      have f2 := hf (k * 3 + 2)
      have hst := store_slT
      have HN : Hid (PcK b (((w3.setCell ⟨b, k * 3, none⟩ (.int .i64 x)).setCell ⟨b, k * 3 + 1, none⟩ (.int .i64 y)).setCell ⟨b, k * 3 + 2, none⟩ (.slice s' (K k) c')) n (k + 1) X Y K V) := by
        have q_ := HC.out.on (c := c') Hb3.out HO3.out h2
        rw [HX.out.1, HX.out.2] at q_
        exact q_
      have HWn : Hid (Below wb.heap.size wb (((w3.setCell ⟨b, k * 3, none⟩ (.int .i64 x)).setCell ⟨b, k * 3 + 1, none⟩ (.int .i64 y)).setCell ⟨b, k * 3 + 2, none⟩ (.slice s' (K k) c'))) := by
        have bq : Below wb.heap.size wb w3 := HW.out.trans (Hb3.out.mono HW.out.size)
        exact bq.trans ((((Beside.setCell b _ _ _).trans (Beside.setCell b _ _ _)).trans (Beside.setCell b _ _ _)).below (Nat.le_of_eq HBe.out.symm) bq.size)
      clear hf hs
      go_wp2
      go_roundw
      case rel => exact ⟨k + 1, by omega, by go_num, HN, HWn⟩
      case measure => first | (simp [intOf]; done) | (simp [intOf]; omega)
    case neg =>
      obtain rfl : k = n := by omega
      have q0 := (HW.out.cell (p := ⟨q, 0, none⟩) HQc.out.2.2).trans HQc.out.1
      have qf := (HW.out.frozen (p := ⟨q, 0, none⟩) HQc.out.2.2).trans (HQc.out.2.1 0)
      have qz := Nat.lt_of_lt_of_le HQc.out.2.2 HW.out.size
      have hst := store_slT
      have bs' : Beside q wr (wr.setCell ⟨q, 0, none⟩ (.slice (some ⟨b, 0, none⟩) k k)) := Beside.setCell q _ 0 _
      have HP : Hid (PcK b (wr.setCell ⟨q, 0, none⟩ (.slice (some ⟨b, 0, none⟩) k k)) k k X Y K V) := HC.out.beside bs' zqb
      have HWn : Hid (Below w.heap.size w (wr.setCell ⟨q, 0, none⟩ (.slice (some ⟨b, 0, none⟩) k k))) := HWw.out.trans (bs'.below zqw HWw.out.size)
      clear bs'
      go_wp2
      refine bodyPost_ret (v := .agg #[.slice (some ⟨b, 0, none⟩) k k]) (by simp [results, Try.results51, go_sem, q0]) rfl ?_
      exact ⟨b, rfl, by omega, HP.out, HWn.out⟩
end Go.Proofs.Ytikcfpjfcpbfcaa
