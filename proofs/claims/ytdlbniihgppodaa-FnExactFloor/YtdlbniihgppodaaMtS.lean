/-
What is proved: what machines give by their merit, as the specification says it.
-/
import Derived.Test.YtdlbniihgppodaaMtI
import Derived.Test.YtdlbniihgppodaaOwnV
namespace Go.Proofs.Ytdlbniihgppodaa
set_option maxRecDepth 40000
open Go.ChangeShapes Go.WideShapes Go.ChangeAt Go.RowKit
set_option linter.unusedVariables false
set_option linter.unusedSimpArgs false

def uF (n : Nat) (V : Nat → Int × Int × Int × Int × Int) (O : Nat → Bool) (L : Int) (c : Int) (i j : Nat) : Int := lsF V O j + (if selB (csF V) c i j = true then givV L (csF V) (cpF V O) n j else 0)
theorem sel_same {C : Nat → Int} {c : Int} {i j : Nat} (ne : j ≠ i ∨ C i ≠ c) : selB C c (i + 1) j = selB C c i j := by
  cases q : selB C c i j
  · cases r : selB C c (i + 1) j
    · rfl
    · have h := sel_iff.1 r
      have : selB C c i j = true := sel_iff.2 (by
        rcases h with h | ⟨h1, h2⟩
        · exact Or.inl h
        · by_cases e : j = i
          · subst e
            rcases ne with ne | ne
            · exact absurd rfl ne
            · exact absurd h1 ne
          · right; omega)
      rw [q] at this; cases this
  · have h := sel_iff.1 q
    exact sel_iff.2 (by omega)
theorem sel_next {C : Nat → Int} {c : Int} {n j : Nat} (hj : j < n) : selB C c n j = selB C (c + 1) 0 j := by
  cases q : selB C (c + 1) 0 j
  · cases r : selB C c n j
    · rfl
    · have h := sel_iff.1 r
      have : selB C (c + 1) 0 j = true := sel_iff.2 (by omega)
      rw [q] at this; cases this
  · have h := sel_iff.1 q
    exact sel_iff.2 (by omega)
theorem sel_here {C : Nat → Int} {i : Nat} : selB C (C i) i i = false ∧ selB C (C i) (i + 1) i = true := by
  constructor
  · cases q : selB C (C i) i i
    · rfl
    · have := sel_iff.1 q; omega
  · exact sel_iff.2 (by omega)
theorem u_off {n : Nat} {V : Nat → Int × Int × Int × Int × Int} {O : Nat → Bool} {L c : Int} {i j : Nat} (h : O i = false ∨ csF V i ≠ c) : uF n V O L c (i + 1) j = uF n V O L c i j := by
  unfold uF
  by_cases e : j = i
  · subst e
    rcases h with h | h
    · have : givV L (csF V) (cpF V O) n j = 0 := by unfold givV cpF lfV; rw [h]; simp; omega
      rw [this]; simp
    · rw [sel_same (Or.inr h)]
  · rw [sel_same (Or.inl e)]
theorem u_on {n : Nat} {V : Nat → Int × Int × Int × Int × Int} {O : Nat → Bool} {L : Int} {i j : Nat} : uF n V O L (csF V i) (i + 1) j = if j = i then lsF V O i + givV L (csF V) (cpF V O) n i else uF n V O L (csF V i) i j := by
  unfold uF
  by_cases e : j = i
  · subst e
    rw [if_pos rfl, sel_here.2]; simp
  · rw [if_neg e, sel_same (Or.inl e)]
theorem u_at {n : Nat} {V : Nat → Int × Int × Int × Int × Int} {O : Nat → Bool} {L : Int} {i : Nat} : uF n V O L (csF V i) i i = lsF V O i := by
  unfold uF
  rw [sel_here.1]; simp
theorem bef_off {n : Nat} {V : Nat → Int × Int × Int × Int × Int} {O : Nat → Bool} {c : Int} {i : Nat} (hi : i < n) (h : O i = false ∨ csF V i ≠ c) : befF (csF V) (cpF V O) n c (i + 1) = befF (csF V) (cpF V O) n c i := by
  rw [bef_step hi]
  rcases h with h | h
  · have : cpF V O i = 0 := by unfold cpF; rw [h]; rfl
    rw [this]; simp
  · rw [if_neg h]; omega
theorem bef_in {n : Nat} {V : Nat → Int × Int × Int × Int × Int} {O : Nat → Bool} {c : Int} {i : Nat} (h : ∀ i, i < n → plB (V i) = true) : 0 ≤ befF (csF V) (cpF V O) n c i := (sum_in (M := 100000) (fun j hj => by have := (ls_in (O := O) h j hj).2.2.1; split <;> omega)).1
theorem me_low {n k : Nat} {V : Nat → Int × Int × Int × Int × Int} {O : Nat → Bool} {no : Nat} {ld : Int} (h : ∀ i, i < n → plB (V i) = true) (hk : k ≤ n) (hl : ld < sumF (lsF V O) k) : meB n V O no ld = false := by
  unfold meB
  have := sum_mono hk (fun j hj => (ls_in (O := O) h j hj).1.1)
  rw [decide_eq_false (by omega : ¬ sumF (lsF V O) n ≤ ld)]
  simp
set_option maxRecDepth 20000 in
set_option maxHeartbeats 16000000 in
theorem specMerit_any (s : Option Addr) (n c : Nat) (V : Nat → Int × Int × Int × Int × Int) (t : Option Addr) (no m : Nat) (O : Nat → Bool) (ld : Int) (w : World) (hn : (n : Int) ≤ 1048576) (hno : (no : Int) ≤ 1048576) (l0 : -9223372036854775808 ≤ ld) (l1 : ld ≤ 9223372036854775807) (HR : Hid (RowPlant w s n V)) (HO : Hid (RowB w t no O)) :
    Calls Try.prog 9 #[.slice s n c, .slice t no m, .int .i64 ld] w fun e w' => MePost w (meN n V O no ld) (outV n V O ld) (meB n V O no ld) e w' := by
  go_enter Try.func9, Try.ntmps9
  go_wp2_with fail
  obtain ⟨wd, hwd⟩ : ∃ z, z = w.alloc (.cells #[] 2) := ⟨_, rfl⟩
  rw [← hwd]
  have B0 : Below w.heap.size w wd := by rw [hwd]; exact (by repeat (first | with_reducible exact Below.refl _ _ | with_reducible refine Below.setCell ?_ (by first | omega | (simp; done) | (simp; omega)) _ | with_reducible refine bDrewN ?_ _ | with_reducible refine Below.drew ?_ | with_reducible refine Below.alloc ?_ (by first | omega | (simp; done) | (simp; omega)) _))
  clear hwd
  refine (l24Plants_any s n c V _ hn (HR.out.below B0)).mono ?_
  rintro e w1 ⟨rfl, h1⟩
  have B1 : Below w.heap.size w w1 := B0.trans (h1.mono B0.size)
  clear h1 B0
  cases h0 : plsB n V
  · have HN0 : Hid (meN n V O no ld = 0 ∧ meB n V O no ld = false) := me_off (by unfold meB; rw [h0]; rfl)
    go_wp2
    exact bodyPost_ret (v := .tuple #[.slice (some ⟨w.heap.size, 0, none⟩) 0 0, .bool false]) (by simp [results, Try.results9, go_sem]) rfl (me_none HN0.out.1 HN0.out.2 (by repeat (first | with_reducible exact Below.refl _ _ | with_reducible exact B1 | with_reducible refine Below.setCell ?_ (by first | omega | (simp; done) | (simp; omega)) _ | with_reducible refine bDrewN ?_ _ | with_reducible refine Below.drew ?_ | with_reducible refine Below.alloc ?_ (by first | omega | (simp; done) | (simp; omega)) _)))
  obtain ⟨n1, n3, hpl⟩ := pls_yes h0
  have HPL : Hid (∀ i, i < n → plB (V i) = true) := hpl
  have HPS : Hid (plsB n V = true) := h0
  have n3i : (n : Int) ≤ 3 := by omega
  clear h0 hpl
  by_cases hno2 : no = n
  case neg =>
    have b0 : ((no : Int) != (n : Int)) = true := by simp; omega
    have HN0 : Hid (meN n V O no ld = 0 ∧ meB n V O no ld = false) := me_off (by unfold meB; rw [decide_eq_false hno2]; simp)
    go_wp2
    exact bodyPost_ret (v := .tuple #[.slice (some ⟨w.heap.size, 0, none⟩) 0 0, .bool false]) (by simp [results, Try.results9, go_sem]) rfl (me_none HN0.out.1 HN0.out.2 (by repeat (first | with_reducible exact Below.refl _ _ | with_reducible exact B1 | with_reducible refine Below.setCell ?_ (by first | omega | (simp; done) | (simp; omega)) _ | with_reducible refine bDrewN ?_ _ | with_reducible refine Below.drew ?_ | with_reducible refine Below.alloc ?_ (by first | omega | (simp; done) | (simp; omega)) _)))
  subst hno2
  have HM0 : Hid (MadeI w1.heap.size w1 (w1.alloc (.cells #[] 2)) (.slice (some ⟨w1.heap.size, 0, none⟩) 0 0) 0 (lsF V O)) := made_lit w1 _ (Nat.le_refl _)
  have HB1 : Hid (Below w.heap.size w w1) := B1
  have z1 := B1.size
  clear B1
  go_wp2_with fail
  go_loopw [9, 10, 11] (fun v l i wr => ∃ k : Nat, k ≤ no ∧ i = .int .i64 k ∧ l = .int .i64 (ld - sumF (lsF V O) k) ∧ Hid (MadeI w1.heap.size w1 wr v k (lsF V O)) ∧ (k = 0 ∨ sumF (lsF V O) k ≤ ld)) (fun _ _ i _ => no - (intOf i).toNat)
  case atStart => exact ⟨0, Nat.zero_le _, rfl, by simp [sumF], HM0.out, Or.inl rfl⟩
  case round =>
    clear HM0
    obtain ⟨k, hk, rfl, rfl, HM, hsum⟩ := hrel
    have HBr : Hid (Below w1.heap.size w1 wr) := HM.out.2
    have zr := HBr.out.size
    have hB : Below w.heap.size w wr := HB1.out.trans (HBr.out.mono HB1.out.size)
    have sb := sum_in (f := lsF V O) (n := k) (M := 100000) (fun j hj => (ls_in HPL.out j (by omega)).1)
    by_cases h1 : k < no
    · obtain ⟨pb1, pb2, -⟩ := pl_yes (HPL.out k h1)
      obtain ⟨g2, o2, rfl, hg2, d0⟩ := HO.out k h1
      replace d0 := (hB.cell (p := ⟨g2, o2 + k, none⟩) hg2).trans d0
      have HS : Hid (sumF (lsF V O) (k + 1) = sumF (lsF V O) k + lsF V O k) := rfl
      have HLS : Hid (lsF V O k = if O k = true then (V k).1 else 0) := rfl
      have HLOW : Hid (ld < sumF (lsF V O) (k + 1) → meN no V O no ld = 0 ∧ meB no V O no ld = false) := fun h => me_off (me_low HPL.out (by omega) h)
      obtain ⟨g, o, rfl, hg, c0, c1, c2, c3, c4⟩ := HR.out k h1
      replace c0 := (hB.cell (p := ⟨g, o + k * 5, none⟩) hg).trans c0
      replace c1 := (hB.cell (p := ⟨g, o + k * 5 + 1, none⟩) hg).trans c1
      replace c2 := (hB.cell (p := ⟨g, o + k * 5 + 2, none⟩) hg).trans c2
      replace c3 := (hB.cell (p := ⟨g, o + k * 5 + 3, none⟩) hg).trans c3
      replace c4 := (hB.cell (p := ⟨g, o + k * 5 + 4, none⟩) hg).trans c4
      obtain ⟨⟨a, b, d, x, y⟩, hV⟩ : ∃ z, V k = z := ⟨_, rfl⟩
      rw [hV] at c0 c1 c2 c3 c4
      simp only at c0 c1 c2 c3 c4
      have HV : Hid (V k = (a, b, d, x, y)) := hV
      have zg : g < wr.heap.size := Nat.lt_of_lt_of_le hg hB.size
      have k1 : (k : Int) < (no : Int) := by omega
      clear hV
      rw [HV.out] at HLS pb1 pb2
      simp only at HLS pb1 pb2
      have zg2 : g2 < wr.heap.size := Nat.lt_of_lt_of_le hg2 hB.size
      have HOW : Hid (wr.ownsRow w1.heap.size 2 1 u9 k (vals (lsF V O) k)) := HM.out.1
      obtain ⟨p, hp⟩ : ∃ p, sumF (lsF V O) k = p := ⟨_, rfl⟩
      obtain ⟨v, hv⟩ : ∃ v, lsF V O k = v := ⟨_, rfl⟩
      have HVV : Hid (lsF V O k = v) := hv
      rw [hp] at HS sb hsum ⊢
      rw [hv] at HS HLS
      rw [HS.out] at HLOW
      obtain ⟨bo, hbo⟩ : ∃ z, O k = z := ⟨_, rfl⟩
      rw [hbo] at HLS d0
      have v0 : 0 ≤ v ∧ v ≤ 100000 := by rw [HLS.out]; split <;> omega
      clear hp hv hbo hg hg2 c1 c2 c3 c4
      obtain ⟨l, hl⟩ : ∃ l, ld - p = l := ⟨_, rfl⟩
      have lb : -9223372036854775808 ≤ l ∧ l ≤ 9223372036854775807 := by rcases hsum with h | h <;> (try subst h) <;> (try simp at sb) <;> omega
      rw [hl]
      have HLL : Hid (ld - p = l) := hl
      have p3 : p ≤ 300000 := by omega
      clear hl hsum
      have B2 := hB
      cases bo
      · have hv0 : v = 0 := by rw [HLS.out]; simp
        subst hv0
        by_cases lo : l < 0
        · have HN0 : Hid (meN no V O no ld = 0 ∧ meB no V O no ld = false) := HLOW.out (by have := HLL.out; omega)
          go_wp2_with (at_builtin; refine list_i64 w1.heap.size u9 k (vals (lsF V O) k) (.tmp 45) (.tmp 47) (by rfl) (by rfl) (by rfl) (by rfl) HOW.out (by omega) (by omega) ?_; intro g' cap' w7 hown7 hgrow7 hlt7)
          have hm7 := made_on HM.out (Below.refl _ _) zr (by rw [HVV.out]; exact hown7) hgrow7
          have B7 : Below w.heap.size w w7 := HB1.out.trans (hm7.2.mono HB1.out.size)
          exact bodyPost_ret (v := .tuple #[.slice (some ⟨w.heap.size, 0, none⟩) 0 0, .bool false]) (by simp [results, Try.results9, go_sem]) rfl (me_none HN0.out.1 HN0.out.2 (by repeat (first | with_reducible exact Below.refl _ _ | with_reducible exact B7 | with_reducible refine Below.setCell ?_ (by first | omega | (simp; done) | (simp; omega)) _ | with_reducible refine bDrewN ?_ _ | with_reducible refine Below.drew ?_ | with_reducible refine Below.alloc ?_ (by first | omega | (simp; done) | (simp; omega)) _)))
        · have lo2 : decide (l < 0) = false := decide_eq_false lo
          have HNL : Hid (ld - sumF (lsF V O) (k + 1) = l - 0) := by show _ = _; rw [HS.out, ← HLL.out]; omega
          have HLE : Hid (sumF (lsF V O) (k + 1) ≤ ld) := by show _ ≤ _; rw [HS.out]; have := HLL.out; omega
          go_wp2_with (at_builtin; refine list_i64 w1.heap.size u9 k (vals (lsF V O) k) (.tmp 45) (.tmp 47) (by rfl) (by rfl) (by rfl) (by rfl) HOW.out (by omega) (by omega) ?_; intro g' cap' w7 hown7 hgrow7 hlt7)
          go_roundw
          case rel => exact ⟨k + 1, by omega, by go_num, by first | (rw [HNL.out]; done) | (rw [HNL.out]; simp; done), made_on HM.out (Below.refl _ _) zr (by rw [HVV.out]; exact hown7) hgrow7, Or.inr HLE.out⟩
          case measure => first | (simp [intOf]; done) | (simp [intOf]; omega)
      · have hv0 : v = a := by rw [HLS.out]; simp
        subst hv0
        by_cases lo : l < v
        · have HN0 : Hid (meN no V O no ld = 0 ∧ meB no V O no ld = false) := HLOW.out (by have := HLL.out; omega)
          go_wp2_with (at_builtin; refine list_i64 w1.heap.size u9 k (vals (lsF V O) k) (.tmp 45) (.tmp 47) (by rfl) (by rfl) (by rfl) (by rfl) HOW.out (by omega) (by omega) ?_; intro g' cap' w7 hown7 hgrow7 hlt7)
          have hm7 := made_on HM.out (Below.refl _ _) zr (by rw [HVV.out]; exact hown7) hgrow7
          have B7 : Below w.heap.size w w7 := HB1.out.trans (hm7.2.mono HB1.out.size)
          exact bodyPost_ret (v := .tuple #[.slice (some ⟨w.heap.size, 0, none⟩) 0 0, .bool false]) (by simp [results, Try.results9, go_sem]) rfl (me_none HN0.out.1 HN0.out.2 (by repeat (first | with_reducible exact Below.refl _ _ | with_reducible exact B7 | with_reducible refine Below.setCell ?_ (by first | omega | (simp; done) | (simp; omega)) _ | with_reducible refine bDrewN ?_ _ | with_reducible refine Below.drew ?_ | with_reducible refine Below.alloc ?_ (by first | omega | (simp; done) | (simp; omega)) _)))
        · have lo2 : decide (l < v) = false := decide_eq_false lo
          have HNL : Hid (ld - sumF (lsF V O) (k + 1) = l - v) := by show _ = _; rw [HS.out, ← HLL.out]; omega
          have HLE : Hid (sumF (lsF V O) (k + 1) ≤ ld) := by show _ ≤ _; rw [HS.out]; have := HLL.out; omega
          go_wp2_with (at_builtin; refine list_i64 w1.heap.size u9 k (vals (lsF V O) k) (.tmp 45) (.tmp 47) (by rfl) (by rfl) (by rfl) (by rfl) HOW.out (by omega) (by omega) ?_; intro g' cap' w7 hown7 hgrow7 hlt7)
          go_roundw
          case rel => exact ⟨k + 1, by omega, by go_num, by first | (rw [HNL.out]; done) | (rw [HNL.out]; simp; done), made_on HM.out (Below.refl _ _) zr (by rw [HVV.out]; exact hown7) hgrow7, Or.inr HLE.out⟩
          case measure => first | (simp [intOf]; done) | (simp [intOf]; omega)
    · obtain rfl : k = no := by omega
      have hs : sumF (lsF V O) k ≤ ld := by
        rcases hsum with h | h
        · omega
        · exact h
      have HMB : Hid (meB k V O k ld = decide (ld ≤ sumF (msF V O) k)) := by show _ = _; unfold meB; rw [HPS.out, decide_eq_true hs]; simp
      have HMS : Hid (sumF (msF V O) k = sumF (lsF V O) k + sumF (cpF V O) k) := by
        show _ = _
        rw [← sum_add]
        exact sum_same fun j hj => (ls_in (O := O) HPL.out j hj).2.2.2.symm
      obtain ⟨s', cap, hv, hO⟩ := made_own HM.out
      obtain ⟨G, rfl, hG1, zG, -, -⟩ := hO 0 (by omega)
      subst hv
      obtain ⟨L, hL⟩ : ∃ L, ld - sumF (lsF V O) k = L := ⟨_, rfl⟩
      have HLD : Hid (∀ i, outV k V O ld i = lsF V O i + givV L (csF V) (cpF V O) k i) := fun i => by unfold outV; rw [hL]
      have L0 : 0 ≤ L := by omega
      have L1 : L ≤ 9223372036854775807 := by omega
      have HLL : Hid (ld - sumF (lsF V O) k = L) := hL
      have HG0 : Hid (OwnI w1.heap.size wr (some ⟨G, 0, none⟩) k (uF k V O L 0 0)) := own_congrM hO (fun i hi => by
        unfold uF
        have : selB (csF V) 0 0 i = false := by
          cases q : selB (csF V) 0 0 i
          · rfl
          · have h1 := sel_iff.1 q
            have h2 := (pl_yes (HPL.out i hi)).2.2.1
            unfold csF at h1
            omega
        rw [this]; simp)
      have HL0 : Hid (lfV L (befF (csF V) (cpF V O) k 0 0) = L) := by
        show _ = _
        rw [bef_none (C := csF V) (fun j hj => (pl_yes (HPL.out j hj)).2.2.1.1)]
        unfold lfV; omega
      have HBW : Hid (Below w.heap.size w wr) := hB
      rw [hL]
      clear hO HM hL hs hB HBr
      go_wp2_with fail
      go_loopw [10, 13] (fun l q ws => ∃ cc : Nat, cc ≤ 10001 ∧ q = .int .i64 cc ∧ l = .int .i64 (lfV L (befF (csF V) (cpF V O) k cc 0)) ∧ Hid (OwnI w1.heap.size ws (some ⟨G, 0, none⟩) k (uF k V O L cc 0)) ∧ G < ws.heap.size ∧ Hid (Below w.heap.size w ws)) (fun _ q _ => 10001 - (intOf q).toNat)
      case atStart => exact ⟨0, Nat.zero_le _, rfl, by rw [show ((0 : Nat) : Int) = 0 from rfl, HL0.out], HG0.out, zG, HBW.out⟩
      case round =>
        clear HG0 zG HBW HL0
        obtain ⟨cc, hcc, rfl, rfl, HG, zs, HB⟩ := hrel
        by_cases hc : cc ≤ 10000
        · have hci : (cc : Int) ≤ 10000 := by omega
          go_wp2_with fail
          go_loopw [10, 14] (fun l q ws => ∃ i : Nat, i ≤ k ∧ q = .int .i64 i ∧ l = .int .i64 (lfV L (befF (csF V) (cpF V O) k cc i)) ∧ Hid (OwnI w1.heap.size ws (some ⟨G, 0, none⟩) k (uF k V O L cc i)) ∧ G < ws.heap.size ∧ Hid (Below w.heap.size w ws)) (fun _ q _ => k - (intOf q).toNat)
          case atStart => exact ⟨0, Nat.zero_le _, rfl, rfl, HG.out, zs, HB.out⟩
          case round =>
            clear HG zs HB
            obtain ⟨i, hi, rfl, rfl, HG, zs, HB⟩ := hrel
            rename World => wq
            have HBI := bef_in (O := O) (c := (cc : Int)) (i := i) HPL.out
            have lfb : 0 ≤ lfV L (befF (csF V) (cpF V O) k cc i) ∧ lfV L (befF (csF V) (cpF V O) k cc i) ≤ 9223372036854775807 := by unfold lfV; omega
            by_cases h2 : i < k
            · have i1 : (i : Int) < (k : Int) := by omega
              obtain ⟨pb1, pb2, -⟩ := pl_yes (HPL.out i h2)
              obtain ⟨g2, o2, rfl, hg2, d0⟩ := HO.out i h2
              replace d0 := (HB.out.cell (p := ⟨g2, o2 + i, none⟩) hg2).trans d0
              have zg2 : g2 < wq.heap.size := Nat.lt_of_lt_of_le hg2 HB.out.size
              have HUF : Hid ((O i = false ∨ csF V i ≠ (cc : Int)) → (∀ j, uF k V O L cc (i + 1) j = uF k V O L cc i j) ∧ befF (csF V) (cpF V O) k cc (i + 1) = befF (csF V) (cpF V O) k cc i) := fun h => ⟨fun j => u_off h, bef_off h2 h⟩
              have HCI : Hid (csF V i = (V i).2.2.1) := rfl
              obtain ⟨g, o, rfl, hg, c0, c1, c2, c3, c4⟩ := HR.out i h2
              replace c1 := (HB.out.cell (p := ⟨g, o + i * 5 + 1, none⟩) hg).trans c1
              replace c2 := (HB.out.cell (p := ⟨g, o + i * 5 + 2, none⟩) hg).trans c2
              have zg : g < wq.heap.size := Nat.lt_of_lt_of_le hg HB.out.size
              clear c0 c3 c4
              cases ho : O i
              · obtain ⟨hu1, hu2⟩ := HUF.out (Or.inl ho)
                have HGN : Hid (OwnI w1.heap.size wq (some ⟨G, 0, none⟩) k (uF k V O L cc (i + 1))) := own_congrM HG.out (fun j _ => (hu1 j).symm)
                have HLN : Hid (befF (csF V) (cpF V O) k cc i = befF (csF V) (cpF V O) k cc (i + 1)) := hu2.symm
                rw [ho] at d0
                clear hu1 hu2 HBI
                go_wp2
                go_roundw
                case rel => exact ⟨i + 1, by omega, by go_num, by rw [HLN.out], HGN.out, zs, HB.out⟩
                case measure => first | (simp [intOf]; done) | (simp [intOf]; omega)
              rw [ho] at d0
              by_cases he : (V i).2.2.1 = (cc : Int)
              case neg =>
                obtain ⟨hu1, hu2⟩ := HUF.out (Or.inr he)
                have HGN : Hid (OwnI w1.heap.size wq (some ⟨G, 0, none⟩) k (uF k V O L cc (i + 1))) := own_congrM HG.out (fun j _ => (hu1 j).symm)
                have HLN : Hid (befF (csF V) (cpF V O) k cc i = befF (csF V) (cpF V O) k cc (i + 1)) := hu2.symm
                obtain ⟨z, hz⟩ : ∃ z, (V i).2.2.1 = z := ⟨_, rfl⟩
                have hb0 : (z == (cc : Int)) = false := by rw [← hz]; simpa using he
                rw [hz] at c2
                clear hu1 hu2 he hz HBI
                go_wp2
                go_roundw
                case rel => exact ⟨i + 1, by omega, by go_num, by rw [HLN.out], HGN.out, zs, HB.out⟩
                case measure => first | (simp [intOf]; done) | (simp [intOf]; omega)
              have HCE : Hid (csF V i = (cc : Int)) := he
              have HUO : Hid (∀ j, uF k V O L cc (i + 1) j = if j = i then lsF V O i + givV L (csF V) (cpF V O) k i else uF k V O L cc i j) := fun j => by
                have := u_on (n := k) (V := V) (O := O) (L := L) (i := i) (j := j)
                rw [HCE.out] at this
                exact this
              have HUA : Hid (uF k V O L cc i i = lsF V O i) := by
                have := u_at (n := k) (V := V) (O := O) (L := L) (i := i)
                rw [HCE.out] at this
                exact this
              have HLS : Hid (lsF V O i = (V i).1) := by show _ = _; unfold lsF; rw [ho]; rfl
              have HCP : Hid (cpF V O i = (V i).2.1 - (V i).1) := by show _ = _; unfold cpF; rw [ho]; rfl
              have HGV : Hid (givV L (csF V) (cpF V O) k i = min (lfV L (befF (csF V) (cpF V O) k cc i)) (cpF V O i)) := by show _ = _; unfold givV; rw [HCE.out]
              have HTK : Hid (lfV L (befF (csF V) (cpF V O) k cc i) - min (lfV L (befF (csF V) (cpF V O) k cc i)) (cpF V O i) = lfV L (befF (csF V) (cpF V O) k cc (i + 1))) := by
                show _ = _
                rw [bef_step h2, if_pos HCE.out]
                exact lf_take (ls_in HPL.out i h2).2.2.1.1
              obtain ⟨b9, e9, -, -, cG, fG⟩ := HG.out i h2
              cases e9
              rw [HUA.out, HLS.out] at cG
              rw [HLS.out, HGV.out, HCP.out] at HUO
              rw [HCP.out] at HTK
              obtain ⟨⟨a, b, d, x, y⟩, hV⟩ : ∃ z, V i = z := ⟨_, rfl⟩
              rw [hV] at c1 c2 cG HUO HTK pb1 pb2 he
              simp only at c1 c2 cG HUO HTK pb1 pb2 he
              obtain ⟨lv, hlv⟩ : ∃ z, lfV L (befF (csF V) (cpF V O) k cc i) = z := ⟨_, rfl⟩
              rw [hlv] at HUO HTK lfb ⊢
              obtain ⟨mv, hmv⟩ : ∃ z, min lv (b - a) = z := ⟨_, rfl⟩
              have hmin : (if b - a < lv then b - a else lv) = mv := by rw [← hmv]; split <;> omega
              have m0 : 0 ≤ mv ∧ mv ≤ 100000 ∧ mv ≤ lv := by omega
              rw [hmv] at HUO HTK
              have hb0 : (d == (cc : Int)) = true := by rw [he]; simp
              have HGA := own_setM (F := uF k V O L cc (i + 1)) (q := i) (v := a + mv) HG.out (fun j _ => HUO.out j)
              clear hlv hmv hV he HGV HCP HLS HUA HBI HUF HCI
              go_upto_region 23 with fail
              refine wp_region_held_drew (S := fun w' => w'.cell? ⟨g, o + i * 5 + 1, none⟩ = some (.int .i64 b) ∧ w'.cell? ⟨G, i, none⟩ = some (.int .i64 a)) (by kernel_rfl) ?_ (fun hHeld => ?_)
              · exact ⟨((below_drewS _).cell (p := ⟨g, o + i * 5 + 1, none⟩) zg).trans c1, ((below_drewS _).cell (p := ⟨G, i, none⟩) zs).trans cG⟩
              refine wpAnyH_take (i := 0) (v := .int .i64 lv) rfl (by kernel_rfl) (by kernel_rfl) (by kernel_rfl) (fun _ _ _ h => h) (Or.inl ⟨by kernel_rfl, ?_⟩) hHeld ?_
              · intro w' hSw
                obtain ⟨s0, s1⟩ := hSw
                first | (go_simp; done) | (go_simp; with_reducible rfl) | (go_simp; rw [IntKind.wrap_i64]; omega) | (go_simp; omega)
              simp only [Act.put, List.setIfInBounds_toArray, List.set_cons_zero, List.set_cons_succ]
              refine wpAnyH_take (i := 1) (v := .slice (some ⟨g, o, none⟩) k c) rfl (by kernel_rfl) (by kernel_rfl) (by kernel_rfl) (fun _ _ _ h => h) (Or.inl ⟨by kernel_rfl, ?_⟩) hHeld ?_
              · intro w' hSw
                obtain ⟨s0, s1⟩ := hSw
                first | (go_simp; done) | (go_simp; with_reducible rfl) | (go_simp; rw [IntKind.wrap_i64]; omega) | (go_simp; omega)
              simp only [Act.put, List.setIfInBounds_toArray, List.set_cons_zero, List.set_cons_succ]
              refine wpAnyH_take (i := 2) (v := .int .i64 (i : Int)) rfl (by kernel_rfl) (by kernel_rfl) (by kernel_rfl) (fun _ _ _ h => h) (Or.inl ⟨by kernel_rfl, ?_⟩) hHeld ?_
              · intro w' hSw
                obtain ⟨s0, s1⟩ := hSw
                first | (go_simp; done) | (go_simp; with_reducible rfl) | (go_simp; rw [IntKind.wrap_i64]; omega) | (go_simp; omega)
              simp only [Act.put, List.setIfInBounds_toArray, List.set_cons_zero, List.set_cons_succ]
              refine wpAnyH_take (i := 3) (v := .pointer (some ⟨g, o + i * 5, none⟩)) rfl (by kernel_rfl) (by kernel_rfl) (by kernel_rfl) (fun _ _ _ h => h) (Or.inl ⟨by kernel_rfl, ?_⟩) hHeld ?_
              · intro w' hSw
                obtain ⟨s0, s1⟩ := hSw
                first | (go_simp; done) | (go_simp; with_reducible rfl) | (go_simp; rw [IntKind.wrap_i64]; omega) | (go_simp; omega)
              simp only [Act.put, List.setIfInBounds_toArray, List.set_cons_zero, List.set_cons_succ]
              refine wpAnyH_take (i := 4) (v := .pointer (some ⟨g, o + i * 5 + 1, none⟩)) rfl (by kernel_rfl) (by kernel_rfl) (by kernel_rfl) (fun _ _ _ h => h) (Or.inl ⟨by kernel_rfl, ?_⟩) hHeld ?_
              · intro w' hSw
                obtain ⟨s0, s1⟩ := hSw
                first | (go_simp; done) | (go_simp; with_reducible rfl) | (go_simp; rw [IntKind.wrap_i64]; omega) | (go_simp; omega)
              simp only [Act.put, List.setIfInBounds_toArray, List.set_cons_zero, List.set_cons_succ]
              refine wpAnyH_take (i := 5) (v := .int .i64 b) rfl (by kernel_rfl) (by kernel_rfl) (by kernel_rfl) (fun _ _ _ h => h) (Or.inl ⟨by kernel_rfl, ?_⟩) hHeld ?_
              · intro w' hSw
                obtain ⟨s0, s1⟩ := hSw
                first | (go_simp; done) | (go_simp; with_reducible rfl) | (go_simp; rw [IntKind.wrap_i64]; omega) | (go_simp; omega)
              simp only [Act.put, List.setIfInBounds_toArray, List.set_cons_zero, List.set_cons_succ]
              refine wpAnyH_take (i := 6) (v := .slice (some ⟨G, 0, none⟩) k cap) rfl (by kernel_rfl) (by kernel_rfl) (by kernel_rfl) (fun _ _ _ h => h) (Or.inl ⟨by kernel_rfl, ?_⟩) hHeld ?_
              · intro w' hSw
                obtain ⟨s0, s1⟩ := hSw
                first | (go_simp; done) | (go_simp; with_reducible rfl) | (go_simp; rw [IntKind.wrap_i64]; omega) | (go_simp; omega)
              simp only [Act.put, List.setIfInBounds_toArray, List.set_cons_zero, List.set_cons_succ]
              refine wpAnyH_take (i := 7) (v := .int .i64 (i : Int)) rfl (by kernel_rfl) (by kernel_rfl) (by kernel_rfl) (fun _ _ _ h => h) (Or.inl ⟨by kernel_rfl, ?_⟩) hHeld ?_
              · intro w' hSw
                obtain ⟨s0, s1⟩ := hSw
                first | (go_simp; done) | (go_simp; with_reducible rfl) | (go_simp; rw [IntKind.wrap_i64]; omega) | (go_simp; omega)
              simp only [Act.put, List.setIfInBounds_toArray, List.set_cons_zero, List.set_cons_succ]
              refine wpAnyH_take (i := 8) (v := .pointer (some ⟨G, i, none⟩)) rfl (by kernel_rfl) (by kernel_rfl) (by kernel_rfl) (fun _ _ _ h => h) (Or.inl ⟨by kernel_rfl, ?_⟩) hHeld ?_
              · intro w' hSw
                obtain ⟨s0, s1⟩ := hSw
                first | (go_simp; done) | (go_simp; with_reducible rfl) | (go_simp; rw [IntKind.wrap_i64]; omega) | (go_simp; omega)
              simp only [Act.put, List.setIfInBounds_toArray, List.set_cons_zero, List.set_cons_succ]
              refine wpAnyH_take (i := 9) (v := .int .i64 a) rfl (by kernel_rfl) (by kernel_rfl) (by kernel_rfl) (fun _ _ _ h => h) (Or.inl ⟨by kernel_rfl, ?_⟩) hHeld ?_
              · intro w' hSw
                obtain ⟨s0, s1⟩ := hSw
                first | (go_simp; done) | (go_simp; with_reducible rfl) | (go_simp; rw [IntKind.wrap_i64]; omega) | (go_simp; omega)
              simp only [Act.put, List.setIfInBounds_toArray, List.set_cons_zero, List.set_cons_succ]
              refine wpAnyH_take (i := 10) (v := .int .i64 (b - a)) rfl (by kernel_rfl) (by kernel_rfl) (by kernel_rfl) (fun _ _ _ h => h) (Or.inl ⟨by kernel_rfl, ?_⟩) hHeld ?_
              · intro w' hSw
                obtain ⟨s0, s1⟩ := hSw
                first | (go_simp; done) | (go_simp; with_reducible rfl) | (go_simp; rw [IntKind.wrap_i64]; omega) | (go_simp; omega)
              simp only [Act.put, List.setIfInBounds_toArray, List.set_cons_zero, List.set_cons_succ]
              refine wpAnyH_take (i := 11) (v := .int .i64 mv) rfl (by kernel_rfl) (by kernel_rfl) (by kernel_rfl) (fun _ _ _ h => h) (Or.inl ⟨by kernel_rfl, ?_⟩) hHeld ?_
              · intro w' hSw
                obtain ⟨s0, s1⟩ := hSw
                first | (go_simp; done) | (go_simp; with_reducible rfl) | (go_simp; rw [IntKind.wrap_i64]; omega) | (go_simp; omega)
              simp only [Act.put, List.setIfInBounds_toArray, List.set_cons_zero, List.set_cons_succ]
              refine wpAnyH_ready (rs := [12]) (by kernel_rfl) (by simp) ?_
              refine AllReadyH.cons rfl (fun KK hK => ?_) AllReadyH.nil
              go_simp
              refine hK.out _ _ hHeld (fun hHeld => ?_)
              clear hK KK
              refine wpAnyH_done (by kernel_rfl) ?_ _
              obtain ⟨w5, hw5⟩ : ∃ z, z = wq.drew := ⟨_, rfl⟩
              rw [← hw5]
              have hb5 : Below wq.heap.size wq w5 := by rw [hw5]; exact below_drewS _
              replace cG := (hb5.cell (p := ⟨G, i, none⟩) zs).trans cG
              replace fG := (hb5.frozen (p := ⟨G, i, none⟩) zs).trans fG
              have zs5 : G < w5.heap.size := Nat.lt_of_lt_of_le zs hb5.size
              have HGB := own_setM (F := uF k V O L cc (i + 1)) (q := i) (v := a + mv) (HG.out.below hb5) (fun j _ => HUO.out j)
              have HGN : Hid (OwnI w1.heap.size (w5.setCell ⟨G, i, none⟩ (.int .i64 (a + mv))) (some ⟨G, 0, none⟩) k (uF k V O L cc (i + 1))) := HGB
              have HBN : Hid (Below w.heap.size w (w5.setCell ⟨G, i, none⟩ (.int .i64 (a + mv)))) := set_belowM (HB.out.trans (hb5.mono HB.out.size)) (by omega) (by have := HB.out.size; have := hb5.size; omega)
              clear hHeld hw5 hb5 HGA HGB c1 c2
              go_wp2
              go_roundw
              case rel => exact ⟨i + 1, by omega, by go_num, by rw [← HTK.out], HGN.out, by simpa using zs5, HBN.out⟩
              case measure => first | (simp [intOf]; done) | (simp [intOf]; omega)
            · obtain rfl : i = k := by omega
              have HGN : Hid (OwnI w1.heap.size wq (some ⟨G, 0, none⟩) i (uF i V O L ((cc + 1 : Nat) : Int) 0)) := own_congrM HG.out (fun j hj => by unfold uF; rw [sel_next hj, show ((cc + 1 : Nat) : Int) = (cc : Int) + 1 from by omega])
              have HLN : Hid (befF (csF V) (cpF V O) i (cc : Int) i = befF (csF V) (cpF V O) i ((cc + 1 : Nat) : Int) 0) := by show _ = _; rw [bef_next, show ((cc + 1 : Nat) : Int) = (cc : Int) + 1 from by omega]
              clear HBI
              go_wp2
              go_roundw
              case rel => exact ⟨cc + 1, by omega, by go_num, by rw [HLN.out], HGN.out, zs, HB.out⟩
              case measure => first | (simp [intOf]; done) | (simp [intOf]; omega)
        · have hci : decide ((cc : Int) ≤ 10000) = false := decide_eq_false (by omega)
          have ec : (cc : Int) = 10001 := by omega
          have HBA : Hid (befF (csF V) (cpF V O) k cc 0 = sumF (cpF V O) k) := bef_all (fun j hj => by have := (pl_yes (HPL.out j hj)).2.2.1; unfold csF; omega)
          have HGE : Hid (OwnI w.heap.size _ (some ⟨G, 0, none⟩) k (outV k V O ld)) := (own_congrM HG.out (fun j hj => by
            rw [HLD.out]
            unfold uF
            have : selB (csF V) cc 0 j = true := sel_iff.2 (Or.inl (by have := (pl_yes (HPL.out j hj)).2.2.1; unfold csF; omega))
            rw [this]; rfl)).mono z1
          rw [HBA.out]
          have hmb : meB k V O k ld = decide (L ≤ sumF (cpF V O) k) := by
            rw [HMB.out, HMS.out]
            have := HLL.out
            by_cases h : L ≤ sumF (cpF V O) k
            · rw [decide_eq_true h, decide_eq_true (by omega)]
            · rw [decide_eq_false h, decide_eq_false (by omega)]
          clear ec
          by_cases hf : 0 < lfV L (sumF (cpF V O) k)
          · have HN0 : Hid (meN k V O k ld = 0 ∧ meB k V O k ld = false) := me_off (by rw [hmb]; exact decide_eq_false (by unfold lfV at hf; omega))
            obtain ⟨lv, hlv⟩ : ∃ z, lfV L (sumF (cpF V O) k) = z := ⟨_, rfl⟩
            rw [hlv] at hf ⊢
            have B9 := HB.out
            clear hlv hmb
            go_wp2
            exact bodyPost_ret (v := .tuple #[.slice (some ⟨w.heap.size, 0, none⟩) 0 0, .bool false]) (by simp [results, Try.results9, go_sem]) rfl (me_none HN0.out.1 HN0.out.2 (by repeat (first | with_reducible exact Below.refl _ _ | with_reducible exact B9 | with_reducible refine Below.setCell ?_ (by first | omega | (simp; done) | (simp; omega)) _ | with_reducible refine bDrewN ?_ _ | with_reducible refine Below.drew ?_ | with_reducible refine Below.alloc ?_ (by first | omega | (simp; done) | (simp; omega)) _)))
          · have HME : Hid (meB k V O k ld = true) := by show _ = _; rw [hmb]; exact decide_eq_true (by unfold lfV at hf; omega)
            obtain ⟨lv, hlv⟩ : ∃ z, lfV L (sumF (cpF V O) k) = z := ⟨_, rfl⟩
            rw [hlv] at hf ⊢
            have hf2 : decide (0 < lv) = false := decide_eq_false hf
            clear hlv hmb hf
            go_wp2
            refine bodyPost_ret (v := .tuple #[.slice (some ⟨G, 0, none⟩) k cap, .bool true]) (by simp [results, Try.results9, go_sem]) rfl ?_
            rw [me_on HME.out, HME.out]
            exact ⟨_, _, rfl, HGE.out, HB.out⟩
end Go.Proofs.Ytdlbniihgppodaa
