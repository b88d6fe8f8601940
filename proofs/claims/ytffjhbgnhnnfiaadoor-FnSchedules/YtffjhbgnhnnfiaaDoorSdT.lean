/-
What is proved: the schedule as the specification works it out, with what room its list has.
-/
import Derived.Test.YtffjhbgnhnnfiaaDoorSdS
import Derived.Test.YtffjhbgnhnnfiaaDoorSkN
namespace Go.Proofs.YtffjhbgnhnnfiaaDoor
set_option maxRecDepth 40000
open Go.ChangeShapes Go.WideShapes Go.ChangeAt Go.RowKit
set_option linter.unusedVariables false
set_option linter.unusedSimpArgs false

/-- A list that the call has made, with its room. -/
def OwR (cap base : Nat) (w : World) (s : Option Addr) (k : Nat) (V : Nat → Int) : Prop := OwnI base w s k V ∧ ((s = none ∧ k = 0 ∧ cap = 0) ∨ ∃ b, s = some ⟨b, 0, none⟩ ∧ base ≤ b ∧ b < w.heap.size ∧ k ≤ cap ∧ (∀ o, w.frozen? ⟨b, o, none⟩ = false) ∧ ∀ j, j < cap → (w.cell? ⟨b, j, none⟩).isSome = true)
theorem OwR.below {cap base : Nat} {w w' : World} {s : Option Addr} {k : Nat} {V : Nat → Int} (h : OwR cap base w s k V) (hb : Below w.heap.size w w') : OwR cap base w' s k V := by
  refine ⟨h.1.below hb, ?_⟩
  rcases h.2 with q | ⟨b, e, h1, h2, h3, h4⟩
  · exact Or.inl q
  · exact Or.inr ⟨b, e, h1, Nat.lt_of_lt_of_le h2 hb.size, h3, fun o => (hb.frozen (p := ⟨b, o, none⟩) h2).trans (h4.1 o), fun j hj => by rw [hb.cell (p := ⟨b, j, none⟩) h2]; exact h4.2 j hj⟩
theorem OwR.beside {cap base r : Nat} {w w' : World} {s : Option Addr} {k : Nat} {V : Nat → Int} (h : OwR cap base w s k V) (hb : Beside r w w') (hr : r < base) : OwR cap base w' s k V := by
  refine ⟨fun j hj => ?_, ?_⟩
  · obtain ⟨b, e, hB, hl, hc, hf⟩ := h.1 j hj
    exact ⟨b, e, hB, Nat.lt_of_lt_of_le hl hb.2.2.2.1, (hb.cell (p := ⟨b, j, none⟩) hl (by simp only; omega)).trans hc, (hb.frozen (p := ⟨b, j, none⟩) hl (by simp only; omega)).trans hf⟩
  · rcases h.2 with q | ⟨b, e, h1, h2, h3, h4⟩
    · exact Or.inl q
    · exact Or.inr ⟨b, e, h1, Nat.lt_of_lt_of_le h2 hb.2.2.2.1, h3, fun o => (hb.frozen (p := ⟨b, o, none⟩) h2 (by simp only; omega)).trans (h4.1 o), fun j hj => by rw [hb.cell (p := ⟨b, j, none⟩) h2 (by simp only; omega)]; exact h4.2 j hj⟩
theorem OwR.congr {cap base : Nat} {w : World} {s : Option Addr} {k : Nat} {V U : Nat → Int} (h : OwR cap base w s k V) (e : ∀ j, j < k → V j = U j) : OwR cap base w s k U := ⟨h.1.congr e, h.2⟩
theorem OwR.mono {cap base b : Nat} {w : World} {s : Option Addr} {k : Nat} {V : Nat → Int} (h : OwR cap base w s k V) (hb : b ≤ base) : OwR cap b w s k V := by
  refine ⟨h.1.mono hb, ?_⟩
  rcases h.2 with q | ⟨b', e, h1, r⟩
  · exact Or.inl q
  · exact Or.inr ⟨b', e, by omega, r⟩
theorem OwR.set {cap base g m : Nat} {w : World} {E : Nat → Int} {q : Nat} {v : Int} (h : OwR cap base w (some ⟨g, 0, none⟩) m E) (hq : q < m) : OwR cap base (w.setCell ⟨g, q, none⟩ (.int .i64 v)) (some ⟨g, 0, none⟩) m (updJ E q v) := by
  refine ⟨ownI_set h.1 hq, ?_⟩
  rcases h.2 with ⟨z, _⟩ | ⟨b, e, h1, h2, h3, h4⟩
  · cases z
  · cases e
    refine Or.inr ⟨g, rfl, h1, by simpa using h2, h3, fun o => by simp [go_sem, h4.1], fun j hj => ?_⟩
    obtain ⟨u, hu⟩ := Option.isSome_iff_exists.1 (h4.2 j hj)
    by_cases e : j = q
    · subst e
      rw [World.cell?_setCell_same' _ _ _ (by rw [hu]; rfl)]; rfl
    · rw [World.cell?_setCell_other _ _ _ _ (by intro z; cases z; exact e rfl), hu]; rfl
theorem made_ownR {base : Nat} {w wr : World} {v : Value} {k : Nat} {U : Nat → Int} (h : MadeI base w wr v k U) : ∃ s cap, v = .slice s k cap ∧ OwR cap base wr s k U := by
  obtain ⟨s, cap, e, ho⟩ := made_own h
  refine ⟨s, cap, e, ho, ?_⟩
  rcases h.1.2 with ⟨q1, q2⟩ | ⟨g, cap', cur, e1, h1, h2, h3, h4, h5, h6⟩
  · rw [q1] at e
    cases e
    exact Or.inl ⟨rfl, rfl, rfl⟩
  · rw [e1] at e
    cases e
    refine Or.inr ⟨g, rfl, h1, (Array.getElem?_eq_some_iff.1 h2).1, h3, fun o => by simp [World.frozen?, h2], fun j hj => by simp [World.cell?, h2, show j < cur.size by omega]⟩
def SdrPost (n : Nat) (X : Nat → Int) (K : Nat → Nat) (V : Nat → Nat → Int) (cr : Int) (FI : Nat → Int) (w : World) (e : Ending) (w' : World) : Prop := ∃ (s : Option Addr) (c : Nat), e = .returned (.tuple #[.slice s (sdN n X K V cr) c, .int .i64 (sdE n X K V cr FI)]) ∧ OwR c w.heap.size w' s (sdN n X K V cr) FI ∧ Below w.heap.size w w'
theorem sdr_no {n : Nat} {X : Nat → Int} {K : Nat → Nat} {V : Nat → Nat → Int} {cr : Int} {FI : Nat → Int} {w w' : World} {b : Nat} (h : sdB n X K V cr = false) (hb : Below w.heap.size w w') (h1 : w.heap.size ≤ b) (h2 : b < w'.heap.size) (hf : ∀ o, w'.frozen? ⟨b, o, none⟩ = false) : SdrPost n X K V cr FI w (.returned (.tuple #[.slice (some ⟨b, 0, none⟩) 0 0, .int .i64 (-1)])) w' := by
  have e1 : sdN n X K V cr = 0 := by unfold sdN; rw [h]; rfl
  have e2 : sdE n X K V cr FI = -1 := by unfold sdE; rw [h]; rfl
  refine ⟨some ⟨b, 0, none⟩, 0, by rw [e1, e2], ?_, hb⟩
  rw [e1]
  exact ⟨fun j hj => absurd hj (Nat.not_lt_zero _), Or.inr ⟨b, rfl, h1, h2, Nat.le_refl _, hf, fun j hj => absurd hj (Nat.not_lt_zero _)⟩⟩
theorem sdr_yes {n : Nat} {X : Nat → Int} {K : Nat → Nat} {V : Nat → Nat → Int} {cr : Int} {FI : Nat → Int} {w w' : World} {s : Option Addr} {c : Nat} {E : Int} (h : sdB n X K V cr = true) (hE : lastF X FI n = E) (ho : OwR c w.heap.size w' s n FI) (hb : Below w.heap.size w w') : SdrPost n X K V cr FI w (.returned (.tuple #[.slice s n c, .int .i64 E])) w' := by
  have e1 : sdN n X K V cr = n := by unfold sdN; rw [h]; rfl
  have e2 : sdE n X K V cr FI = E := by unfold sdE; rw [h]; exact hE
  refine ⟨s, c, ?_, ?_, hb⟩
  · rw [e1, e2]
  · rw [e1]; exact ho
set_option maxRecDepth 20000 in
set_option maxHeartbeats 16000000 in
theorem specScheduleR_any (s : Option Addr) (n c : Nat) (X : Nat → Int) (K : Nat → Nat) (V : Nat → Nat → Int) (cr : Int) (FI : Nat → Int) (w : World) (hn : (n : Int) ≤ 1048576) (HK : Hid (∀ i, i < n → (K i : Int) ≤ 1048576)) (HF : Hid (∀ r, (∀ j, j < n → (itr n X K V cr r).1 j ≠ nob) → ∀ j, j < n → (itr n X K V cr r).1 j = FI j)) (HR : Hid (RowJbs w s n X K V)) :
    Calls Tryd.prog 12 #[.slice s n c, .int .i64 cr] w fun e w' => SdrPost n X K V cr FI w e w' := by
  have nbv : nob = 1000000000 := rfl
  go_enter Tryd.func12, Tryd.ntmps12
  go_wp2_with fail
  refine (l25Jobs_any s n c X K V _ hn HK HR).mono ?_
  rintro e w2 ⟨rfl, h2⟩
  have B1 : Below w.heap.size w w2 := h2
  clear h2
  cases hc : jobsB n X K V
  · have HO : Hid (sdB n X K V cr = false) := by show _ = _; unfold sdB; rw [hc]; rfl
    have zw : w.heap.size ≤ w2.heap.size := B1.size
    go_wp2
    exact bodyPost_ret (v := .tuple #[.slice (some ⟨w2.heap.size, 0, none⟩) 0 0, .int .i64 (-1)]) (by simp [results, Tryd.results12, go_sem]) rfl (sdr_no HO.out (by repeat (first | with_reducible exact Below.refl _ _ | with_reducible exact B1 | with_reducible refine Below.setCell ?_ (by first | omega | (simp; done) | (simp; omega)) _ | with_reducible refine bDrewN ?_ _ | with_reducible refine Below.drew ?_ | with_reducible refine Below.alloc ?_ (by first | omega | (simp; done) | (simp; omega)) _)) zw (by simp) (fun o => by simp [go_sem]))
  go_wp2_with fail
  refine (l1In_is _ _ _ _).mono ?_
  rintro e w2 ⟨rfl, rfl⟩
  cases h0 : inB 1 10 cr
  · have HO : Hid (sdB n X K V cr = false) := by show _ = _; unfold sdB; rw [h0]; simp
    have zw : w.heap.size ≤ w2.heap.size := B1.size
    go_wp2
    exact bodyPost_ret (v := .tuple #[.slice (some ⟨w2.heap.size, 0, none⟩) 0 0, .int .i64 (-1)]) (by simp [results, Tryd.results12, go_sem]) rfl (sdr_no HO.out (by repeat (first | with_reducible exact Below.refl _ _ | with_reducible exact B1 | with_reducible refine Below.setCell ?_ (by first | omega | (simp; done) | (simp; omega)) _ | with_reducible refine bDrewN ?_ _ | with_reducible refine Below.drew ?_ | with_reducible refine Below.alloc ?_ (by first | omega | (simp; done) | (simp; omega)) _)) zw (by simp) (fun o => by simp [go_sem]))
  have HO : Hid (sdB n X K V cr = true) := by show _ = _; unfold sdB; rw [hc, h0]; rfl
  have cr1 := (inB_yes h0).1
  have n4 := (jobs_yes hc).1
  have n5 : (n : Int) ≤ 40 := by omega
  have HJ : Hid (∀ j, j < n → (1 ≤ X j ∧ X j ≤ 1000) ∧ (∀ i, i < K j → 0 ≤ V j i ∧ V j i < (j : Int))) := job_good hc
  have HVJ : Hid (∀ j, j < n → ∀ i, i < K j → 0 ≤ V j i ∧ V j i < (j : Int)) := fun j hj => (HJ.out j hj).2
  have HB1 : Hid (Below w.heap.size w w2) := B1
  have zw : w.heap.size ≤ w2.heap.size := B1.size
  clear hc h0 B1
  go_wp2_with fail
  go_loopw [6, 7] (fun v i wr => ∃ k : Nat, k ≤ n ∧ i = .int .i64 (k : Int) ∧ Hid (MadeI w2.heap.size w2 wr v k (fun _ => -1))) (fun _ i _ => n - (intOf i).toNat)
  case atStart => exact ⟨0, Nat.zero_le _, rfl, made_lit _ _ (Nat.le_refl _)⟩
  case round =>
    rename_i u6 _
    obtain ⟨k, hk, rfl, HM⟩ := hrel
    have zr : w2.heap.size ≤ wr.heap.size := HM.out.2.size
    by_cases h1 : k < n
    · have k1 : (k : Int) < (n : Int) := by omega
      have HOWN : Hid (wr.ownsRow w2.heap.size 2 1 u6 k (vals (fun _ => -1) k)) := HM.out.1
      go_wp2_with (at_builtin; refine list_i64 w2.heap.size u6 k (vals (fun _ => -1) k) (.tmp 27) (.tmp 28) (by rfl) (by rfl) (by rfl) (by rfl) HOWN.out (by omega) (by omega) ?_; intro g' cap' w7 hown7 hgrow7 hlt7; have HM7 : Hid (MadeI w2.heap.size w2 w7 (.slice (some ⟨g', 0, none⟩) (k + 1) cap') (k + 1) (fun _ => -1)) := made_on HM.out (Below.refl _ _) zr hown7 hgrow7; clear hown7 hgrow7)
      go_roundw
      case rel => exact ⟨k + 1, by omega, by go_num, HM7⟩
      case measure => first | (simp [intOf]; done) | (simp [intOf]; omega)
    · obtain rfl : k = n := by omega
      obtain ⟨s', cap, hv, hOW⟩ := made_ownR HM.out
      subst hv
      have HOS : Hid (OwR cap w2.heap.size wr s' k (sOf (itr k X K V cr 0).1)) := OwR.congr hOW (fun j hj => rfl)
      have HBS : Hid (Below w.heap.size w wr) := HB1.out.trans (HM.out.2.mono zw)
      have HRS : Hid (RunI k X (itr k X K V cr 0).1 (itr k X K V cr 0).2) := ⟨⟨Int.le_refl _, by have := cnt_le X (itr k X K V cr 0).1 0 k; show (0 : Int) + 1000 * ((cntF X (itr k X K V cr 0).1 0 k : Nat) : Int) ≤ _; omega⟩, fun j hj => ⟨(HJ.out j hj).1, Or.inl rfl⟩, Or.inl rfl⟩
      clear hOW HM HB1 h1 hk
      go_wp2_with fail
      go_loopw [8] (fun v wq => ∃ r : Nat, v = .int .i64 (itr k X K V cr r).2 ∧ Hid (OwR cap w2.heap.size wq s' k (sOf (itr k X K V cr r).1)) ∧ Hid (RunI k X (itr k X K V cr r).1 (itr k X K V cr r).2) ∧ Below w.heap.size w wq) (fun v wq => cntF X (cellS wq s') (intOf v) k)
      case atStart => exact ⟨0, rfl, HOS, HRS, HBS.out⟩
      case round =>
        obtain ⟨r, rfl, HOr, HRr, hB⟩ := hrel
        have HBr : Hid (Below w.heap.size w wr) := hB
        have HGr : Hid (GoodI k X (itr k X K V cr r).1 (itr k X K V cr r).2) := run_good n4 HRr.out
        have HMS : Hid (cntF X (cellS wr s') (itr k X K V cr r).2 k = cntF X (itr k X K V cr r).1 (itr k X K V cr r).2 k) := cntS_is HOr.out.1 (fun j hj => by have := (HGr.out.2 j hj).2; omega)
        have HPA : Hid (pasF k X K V cr (itr k X K V cr r).2 (itr k X K V cr r).1 k = (itr k X K V cr (r + 1)).1) := rfl
        have HNV : Hid (nxI X (itr k X K V cr (r + 1)).1 (itr k X K V cr r).2 k = (itr k X K V cr (r + 1)).2) := rfl
        have HRP : Hid (RunI k X (itr k X K V cr (r + 1)).1 (itr k X K V cr r).2) := run_pass (X := X) (K := K) (V := V) (cr := cr) n4 HRr.out
        have HCP : Hid (cntF X (itr k X K V cr (r + 1)).1 (itr k X K V cr r).2 k = cntF X (itr k X K V cr r).1 (itr k X K V cr r).2 k) := cnt_pass n4 HGr.out
        have HDN : Hid ((∀ j, j < k → (itr k X K V cr (r + 1)).1 j = nob ∨ (itr k X K V cr (r + 1)).1 j + X j ≤ (itr k X K V cr r).2) → ∀ j, j < k → (itr k X K V cr (r + 1)).1 j ≠ nob) := pass_done n4 cr1 HVJ.out HRr.out
        have tn := HGr.out.1
        obtain ⟨T, hT⟩ : ∃ T, (itr k X K V cr r).2 = T := ⟨_, rfl⟩
        obtain ⟨I, hI⟩ : ∃ I, (itr k X K V cr r).1 = I := ⟨_, rfl⟩
        obtain ⟨J, hJ⟩ : ∃ J, (itr k X K V cr (r + 1)).1 = J := ⟨_, rfl⟩
        have HT2 : Hid ((itr k X K V cr r).2 = T) := hT
        have HJ2 : Hid ((itr k X K V cr (r + 1)).1 = J) := hJ
        rw [hT] at HGr HMS HPA HNV HRP HCP HDN tn ⊢
        rw [hI] at HOr HGr HMS HPA HCP
        rw [hJ] at HPA HNV HRP HCP HDN
        obtain ⟨MS, hMS⟩ : ∃ M : Nat, cntF X (cellS wr s') T k = M := ⟨_, rfl⟩
        have HMSE : Hid (cntF X (cellS wr s') T k = MS) := hMS
        rw [hMS] at HMS
        clear hT hI hJ HRr hB hMS
        go_wp2_with fail
        go_loopw [9] (fun i wq => ∃ q : Nat, q ≤ k ∧ i = .int .i64 (q : Int) ∧ Hid (OwR cap w2.heap.size wq s' k (sOf (pasF k X K V cr T I q))) ∧ Below w.heap.size w wq) (fun i _ => k - (intOf i).toNat)
        case atStart => exact ⟨0, Nat.zero_le _, rfl, HOr, HBr.out⟩
        case round =>
          obtain ⟨q, hq, rfl, HOq, hB⟩ := hrel
          by_cases h1 : q < k
          · have q1 : (q : Int) < (k : Int) := by omega
            obtain ⟨b, rfl, hb2, zb, e0, f0⟩ := HOq.out.1 q h1
            have HGJ : Hid (∀ j, j < k → (1 ≤ X j ∧ X j ≤ 1000) ∧ (pasF k X K V cr T I q j = nob ∨ (0 ≤ pasF k X K V cr T I q j ∧ pasF k X K V cr T I q j ≤ T))) := fun j hj => ⟨(HJ.out j hj).1, by
              rcases pas_or k X K V cr T I q j with e | ⟨_, e⟩
              · rw [e]; exact (HGr.out.2 j hj).2
              · rw [e]; right; omega⟩
            have HMY : Hid (∀ z, pasF k X K V cr T I q q = z → mayB k X K V cr T (pasF k X K V cr T I q) q = (decide (z = nob) && (decide (rdyF X (pasF k X K V cr T I q) (V q) (K q) ≤ T) && decide (busI X (pasF k X K V cr T I q) T k < cr)))) := fun z e => by unfold mayB; rw [e]
            have HNO : Hid (mayB k X K V cr T (pasF k X K V cr T I q) q = false → pasF k X K V cr T I (q + 1) = pasF k X K V cr T I q) := pas_no k X K V cr T I
            have HYE : Hid (mayB k X K V cr T (pasF k X K V cr T I q) q = true → pasF k X K V cr T I (q + 1) = updJ (pasF k X K V cr T I q) q T) := pas_yes k X K V cr T I
            have hgq := (HGJ.out q h1).2
            have HSB : Hid (∀ j, j < k → -1 ≤ sOf (pasF k X K V cr T I q) j ∧ sOf (pasF k X K V cr T I q) j ≤ 1000000) := fun j hj => by
              have z := (HGJ.out j hj).2
              unfold sOf
              split <;> omega
            have HBU : Hid (busS X (sOf (pasF k X K V cr T I q)) T k = busI X (pasF k X K V cr T I q) T k) := bus_sOf (fun j hj => ⟨(HGJ.out j hj).1, by have := (HGJ.out j hj).2; omega⟩) (by omega) k (Nat.le_refl _)
            have HFR : Hid (freB X (sOf (pasF k X K V cr T I q)) (V q) (K q) T = decide (rdyF X (pasF k X K V cr T I q) (V q) (K q) ≤ T)) := free_sOf (by omega) (by omega) (fun i hi => by
              have z := HVJ.out q h1 i hi
              have y := HGJ.out (V q i).toNat (by omega)
              exact ⟨y.1.1, by omega⟩)
            have HOR : Hid (∀ w1, Below wr.heap.size wr w1 → RowI w1 (some ⟨b, 0, none⟩) k (sOf (pasF k X K V cr T I q))) := fun w1 hb => HOq.out.1.row.below hb
            have HCB : Hid (∀ w1, Below wr.heap.size wr w1 → Calls Tryd.prog 40 #[.slice s k c, .slice (some ⟨b, 0, none⟩) k cap, .int .i64 T] w1 fun e w' => e = .returned (.int .i64 (busI X (pasF k X K V cr T I q) T k)) ∧ Below w1.heap.size w1 w') := fun w1 hb => by
              rw [← HBU.out]
              exact l25Busy_any s _ k c cap X K V (sOf (pasF k X K V cr T I q)) T w1 n5 (fun j hj => ⟨(HGJ.out j hj).1, HSB.out j hj⟩) ((HR.out.below hB).below hb) (HOR.out w1 hb)
            have HCF : Hid (∀ w1, Below wr.heap.size wr w1 → Calls Tryd.prog 41 #[.slice s k c, .slice (some ⟨b, 0, none⟩) k cap, .int .i64 q, .int .i64 T] w1 fun e w' => e = .returned (.bool (decide (rdyF X (pasF k X K V cr T I q) (V q) (K q) ≤ T))) ∧ Below w1.heap.size w1 w') := fun w1 hb => by
              rw [← HFR.out]
              exact l25Free_any s _ k c cap X K V (sOf (pasF k X K V cr T I q)) q T w1 h1 n5 (HK.out q h1) (fun i hi => by
                have z := HVJ.out q h1 i hi
                exact ⟨by omega, (HGJ.out (V q i).toNat (by omega)).1, HSB.out _ (by omega)⟩) ((HR.out.below hB).below hb) (HOR.out w1 hb)
            have HBq : Hid (Below w.heap.size w wr) := hB
            by_cases t0 : pasF k X K V cr T I q q = nob
            case neg =>
              have HP : Hid (pasF k X K V cr T I (q + 1) = pasF k X K V cr T I q) := HNO.out (by rw [HMY.out _ rfl, decide_eq_false t0]; rfl)
              have e1 : sOf (pasF k X K V cr T I q) q = pasF k X K V cr T I q q := if_neg t0
              rw [e1] at e0
              obtain ⟨y, hy⟩ : ∃ y, pasF k X K V cr T I q q = y := ⟨_, rfl⟩
              rw [hy] at e0 hgq t0
              have yb : 0 ≤ y := by omega
              have ybd : decide (y < 0) = false := decide_eq_false (by omega)
              clear hy e1 t0 hgq
              go_wp2
              go_roundw
              case rel => exact ⟨q + 1, by omega, by go_num, by rw [HP.out]; exact HOq, (by repeat (first | with_reducible exact Below.refl _ _ | with_reducible exact hB | with_reducible refine Below.setCell ?_ (by first | omega | (simp; done) | (simp; omega)) _ | with_reducible refine bDrewN ?_ _ | with_reducible refine Below.drew ?_ | with_reducible refine Below.alloc ?_ (by first | omega | (simp; done) | (simp; omega)) _))⟩
              case measure => first | (simp [intOf]; done) | (simp [intOf]; omega)
            have e1 : sOf (pasF k X K V cr T I q) q = -1 := if_pos t0
            have HM2 : Hid (mayB k X K V cr T (pasF k X K V cr T I q) q = (decide (rdyF X (pasF k X K V cr T I q) (V q) (K q) ≤ T) && decide (busI X (pasF k X K V cr T I q) T k < cr))) := by show _ = _; rw [HMY.out _ t0]; simp
            rw [e1] at e0
            have ub := (bus_in (X := X) (B := pasF k X K V cr T I q) (t := T) k).2.2
            obtain ⟨u, hu⟩ : ∃ u, busI X (pasF k X K V cr T I q) T k = u := ⟨_, rfl⟩
            rw [hu] at HCB HM2 ub
            clear e1 t0 hgq hu HMY
            go_wp2_with fail
            refine (HCB.out _ (Below.refl _ _)).mono ?_
            rintro e w4 ⟨rfl, h4⟩
            have HB4 : Hid (Below wr.heap.size wr w4) := h4
            have B4 : Below w.heap.size w w4 := hB.trans (h4.mono hB.size)
            have HO4 : Hid (OwR cap w2.heap.size w4 (some ⟨b, 0, none⟩) k (sOf (pasF k X K V cr T I q))) := HOq.out.below h4
            clear h4 e0 f0
            by_cases t1 : u < cr
            case neg =>
              have HP : Hid (pasF k X K V cr T I (q + 1) = pasF k X K V cr T I q) := HNO.out (by rw [HM2.out, decide_eq_false t1]; simp)
              go_wp2
              go_roundw
              case rel => exact ⟨q + 1, by omega, by go_num, by rw [HP.out]; exact HO4, (by repeat (first | with_reducible exact Below.refl _ _ | with_reducible exact B4 | with_reducible refine Below.setCell ?_ (by first | omega | (simp; done) | (simp; omega)) _ | with_reducible refine bDrewN ?_ _ | with_reducible refine Below.drew ?_ | with_reducible refine Below.alloc ?_ (by first | omega | (simp; done) | (simp; omega)) _))⟩
              case measure => first | (simp [intOf]; done) | (simp [intOf]; omega)
            go_wp2_with fail
            refine (HCF.out _ HB4.out).mono ?_
            rintro e w5 ⟨rfl, h5⟩
            have B5 : Below w.heap.size w w5 := B4.trans (h5.mono B4.size)
            have HO5 : Hid (OwR cap w2.heap.size w5 (some ⟨b, 0, none⟩) k (sOf (pasF k X K V cr T I q))) := HO4.out.below h5
            clear h5 HO4 B4
            by_cases t2 : rdyF X (pasF k X K V cr T I q) (V q) (K q) ≤ T
            case neg =>
              rw [decide_eq_false t2]
              have HP : Hid (pasF k X K V cr T I (q + 1) = pasF k X K V cr T I q) := HNO.out (by rw [HM2.out, decide_eq_false t2]; simp)
              clear t2
              go_wp2
              go_roundw
              case rel => exact ⟨q + 1, by omega, by go_num, by rw [HP.out]; exact HO5, (by repeat (first | with_reducible exact Below.refl _ _ | with_reducible exact B5 | with_reducible refine Below.setCell ?_ (by first | omega | (simp; done) | (simp; omega)) _ | with_reducible refine bDrewN ?_ _ | with_reducible refine Below.drew ?_ | with_reducible refine Below.alloc ?_ (by first | omega | (simp; done) | (simp; omega)) _))⟩
              case measure => first | (simp [intOf]; done) | (simp [intOf]; omega)
            rw [decide_eq_true t2]
            have HP : Hid (pasF k X K V cr T I (q + 1) = updJ (pasF k X K V cr T I q) q T) := HYE.out (by rw [HM2.out, decide_eq_true t2, decide_eq_true t1]; rfl)
            have HOS5 : Hid (OwR cap w2.heap.size (w5.setCell ⟨b, q, none⟩ (.int .i64 T)) (some ⟨b, 0, none⟩) k (sOf (pasF k X K V cr T I (q + 1)))) := by
              show OwR _ _ _ _ _ _
              rw [HP.out, sOf_set (by omega)]
              exact OwR.set HO5.out h1
            obtain ⟨b', eb, -, -, e5, f5⟩ := HO5.out.1 q h1
            cases eb
            clear t2 HO5
            go_wp2
            go_roundw
            case rel => exact ⟨q + 1, by omega, by go_num, HOS5, (by repeat (first | with_reducible exact Below.refl _ _ | with_reducible exact B5 | with_reducible refine Below.setCell ?_ (by first | omega | (simp; done) | (simp; omega)) _ | with_reducible refine bDrewN ?_ _ | with_reducible refine Below.drew ?_ | with_reducible refine Below.alloc ?_ (by first | omega | (simp; done) | (simp; omega)) _))⟩
            case measure => first | (simp [intOf]; done) | (simp [intOf]; omega)
          · obtain rfl : q = k := by omega
            rw [HPA.out] at HOq
            have HBq : Hid (Below w.heap.size w wr) := hB
            have HGP : Hid (GoodI q X J T) := run_good n4 HRP.out
            have HNX : Hid ((nxI X J T q = nob ∧ nxS X (sOf J) T q = T ∧ ∀ j, j < q → J j = nob ∨ J j + X j ≤ T) ∨ (T < nxI X J T q ∧ nxI X J T q ≤ T + 1000 ∧ nxS X (sOf J) T q = nxI X J T q ∧ ∃ j, j < q ∧ J j ≠ nob ∧ J j + X j = nxI X J T q)) := nx_is HGP.out q (Nat.le_refl _)
            go_wp2_with fail
            refine (l25Next_any s s' q c cap X K V (sOf J) T _ n5 (by omega) (fun j hj => ⟨(HJ.out j hj).1, by have z := (HGP.out.2 j hj).2; unfold sOf; split <;> omega⟩) (HR.out.below hB) HOq.out.1.row).mono ?_
            rintro e w6 ⟨rfl, h6⟩
            have B6 : Below w.heap.size w w6 := hB.trans (h6.mono hB.size)
            have HO6 : Hid (OwR cap w2.heap.size w6 s' q (sOf J)) := HOq.out.below h6
            clear h6 hB HOq
            rcases HNX.out with ⟨a1, a2, a3⟩ | ⟨a1, a2, a3, a4⟩
            · have hall := HDN.out a3
              have HFJ : Hid (∀ j, j < q → J j = FI j) := by
                intro j hj
                have := HF.out (r + 1) (by rw [HJ2.out]; exact hall) j hj
                rw [HJ2.out] at this
                exact this
              have HLE : Hid (lastF X FI q = T) := by
                show _ = _
                rw [← last_same (X := X) (B := J) (B' := FI) q HFJ.out]
                exact last_end HRP.out hall a3
              have HOF : Hid (OwR cap w.heap.size w6 s' q FI) := (OwR.congr HO6.out (fun j hj => by rw [← HFJ.out j hj]; exact if_neg (hall j hj))).mono zw
              rw [a2]
              clear a1 a2 a3 hall HNX
              go_wp2
              exact bodyPost_ret (v := .tuple #[.slice s' q cap, .int .i64 T]) (by simp [results, Tryd.results12, go_sem]) rfl (sdr_yes HO.out HLE.out HOF.out B6)
            · have hr := run_next HRP.out a1 a2 a4
              rw [a3]
              rw [HNV.out] at hr a1 ⊢
              have HR1 : Hid (RunI q X J (itr q X K V cr (r + 1)).2) := hr.1
              have HMN : Hid (cntF X (cellS w6 s') (itr q X K V cr (r + 1)).2 q < MS) := by
                show _ < _
                rw [HMS.out, ← HCP.out, cntS_is HO6.out.1 (fun j hj => by have := (HGP.out.2 j hj).2; omega)]
                exact hr.2
              obtain ⟨T2, hT2⟩ : ∃ T2, (itr q X K V cr (r + 1)).2 = T2 := ⟨_, rfl⟩
              rw [hT2] at HR1 HMN a1 ⊢
              have ne : (T2 == T) = false := beq_eq_false_iff_ne.2 (by omega)
              clear hr a2 a3 a4 HNX
              go_wp2
              go_roundw
              case rel => exact ⟨r + 1, by rw [hT2], by rw [HJ2.out]; exact HO6, by rw [HJ2.out, hT2]; exact HR1, B6⟩
              case measure => exact Nat.lt_of_lt_of_eq HMN.out HMSE.out.symm
theorem specSchedule_ex (s : Option Addr) (n c : Nat) (X : Nat → Int) (K : Nat → Nat) (V : Nat → Nat → Int) (cr : Int) (w : World) (hn : (n : Int) ≤ 1048576) (HK : Hid (∀ i, i < n → (K i : Int) ≤ 1048576)) (HR : Hid (RowJbs w s n X K V)) :
    Calls Tryd.prog 12 #[.slice s n c, .int .i64 cr] w fun e w' => ∃ (s' : Option Addr) (c' k : Nat) (FI : Nat → Int) (E : Int), e = .returned (.tuple #[.slice s' k c', .int .i64 E]) ∧ k ≤ n ∧ OwR c' w.heap.size w' s' k FI ∧ (∀ j, j < k → 0 ≤ FI j ∧ FI j ≤ 41000) ∧ Below w.heap.size w w' := by
  obtain ⟨FI, HF⟩ := sched_ex n X K V cr
  refine (specScheduleR_any s n c X K V cr FI w hn HK HF HR).mono ?_
  rintro e w' ⟨s', c', h1, h2, h3⟩
  refine ⟨s', c', _, FI, _, h1, ?_, h2, ?_, h3⟩
  · unfold sdN; split <;> omega
  · cases q : sdB n X K V cr
    · intro j hj
      rw [show sdN n X K V cr = 0 by unfold sdN; rw [q]; rfl] at hj
      omega
    · rw [show sdN n X K V cr = n by unfold sdN; rw [q]; rfl]
      exact (sched_right q HF).2.2.1
end Go.Proofs.YtffjhbgnhnnfiaaDoor
