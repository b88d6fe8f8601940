/-
What is proved: impl.Schedule.
-/
import Derived.Test.YtffjhbgnhnnfiaaDoorSdW
import Derived.Test.YtffjhbgnhnnfiaaDoorRp
import Derived.Test.YtffjhbgnhnnfiaaDoorCon
import Derived.Deep.RegionHeld3
import Derived.Deep.DeepCutAuto
import Derived.BigQuiet
namespace Go.Proofs.YtffjhbgnhnnfiaaDoor
set_option maxRecDepth 40000
open Go.ChangeShapes Go.WideShapes Go.ChangeAt Go.RowKit
set_option linter.unusedVariables false
set_option linter.unusedSimpArgs false

theorem itr_stay (n : Nat) (X : Nat → Int) (K : Nat → Nat) (V : Nat → Nat → Int) (cr : Int) (r : Nat) (h : ∀ j, j < n → (itr n X K V cr r).1 j ≠ nob) : ∀ d j, j < n → (itr n X K V cr (r + d)).1 j = (itr n X K V cr r).1 j := by
  intro d
  induction d with
  | zero => intro j _; rfl
  | succ d ih =>
    intro j hj
    show pasF n X K V cr (itr n X K V cr (r + d)).2 (itr n X K V cr (r + d)).1 n j = _
    rw [pas_all n X K V cr _ _ (fun i hi => by rw [ih i hi]; exact h i hi) j hj]
    exact ih j hj
theorem sched_ex (n : Nat) (X : Nat → Int) (K : Nat → Nat) (V : Nat → Nat → Int) (cr : Int) : ∃ FI : Nat → Int, ∀ r, (∀ j, j < n → (itr n X K V cr r).1 j ≠ nob) → ∀ j, j < n → (itr n X K V cr r).1 j = FI j := by
  by_cases h : ∃ r, ∀ j, j < n → (itr n X K V cr r).1 j ≠ nob
  · obtain ⟨q, hq⟩ := h
    refine ⟨(itr n X K V cr q).1, fun r hr j hj => ?_⟩
    rcases Nat.le_total r q with z | z
    · have := itr_stay n X K V cr r hr (q - r) j hj
      rw [show r + (q - r) = q by omega] at this
      exact this.symm
    · have := itr_stay n X K V cr q hq (r - q) j hj
      rw [show q + (r - q) = r by omega] at this
      exact this
  · exact ⟨fun _ => 0, fun r hr => absurd ⟨r, hr⟩ h⟩
theorem itr_in {n : Nat} {X : Nat → Int} {K : Nat → Nat} {V : Nat → Nat → Int} {cr : Int} (h : ∀ j, j < n → (1 ≤ X j ∧ X j ≤ 1000) ∧ (∀ i, i < K j → 0 ≤ V j i ∧ V j i < (j : Int))) : ∀ r j, j < n → 0 ≤ (itr n X K V cr r).1 j ∧ (itr n X K V cr r).1 j ≤ 1000000000 := by
  have nbv : nob = 1000000000 := rfl
  have hx : ∀ (I : Nat → Int) (t : Int), (∀ j, j < n → 0 ≤ I j) → 0 ≤ t → ∀ k, k ≤ n → 0 ≤ nxI X I t k ∧ nxI X I t k ≤ 1000000000 := by
    intro I t hI ht k
    induction k with
    | zero => intro _; exact ⟨(by decide : (0 : Int) ≤ nob), (by decide : nob ≤ 1000000000)⟩
    | succ k ih =>
      intro hk
      have q := ih (by omega)
      show 0 ≤ (if t < I k + X k then mnI (nxI X I t k) (I k + X k) else nxI X I t k) ∧ (if t < I k + X k then mnI (nxI X I t k) (I k + X k) else nxI X I t k) ≤ 1000000000
      have := hI k (by omega)
      split
      · unfold mnI; split <;> omega
      · exact q
  have main : ∀ r, (0 ≤ (itr n X K V cr r).2 ∧ (itr n X K V cr r).2 ≤ 1000000000) ∧ ∀ j, j < n → 0 ≤ (itr n X K V cr r).1 j ∧ (itr n X K V cr r).1 j ≤ 1000000000 := by
    intro r
    induction r with
    | zero => exact ⟨⟨Int.le_refl _, (by decide : (0 : Int) ≤ 1000000000)⟩, fun j _ => ⟨(by decide : (0 : Int) ≤ nob), (by decide : nob ≤ 1000000000)⟩⟩
    | succ r ih =>
      have hj : ∀ j, j < n → 0 ≤ (itr n X K V cr (r + 1)).1 j ∧ (itr n X K V cr (r + 1)).1 j ≤ 1000000000 := fun j hj => by
        show 0 ≤ pasF n X K V cr (itr n X K V cr r).2 (itr n X K V cr r).1 n j ∧ pasF n X K V cr (itr n X K V cr r).2 (itr n X K V cr r).1 n j ≤ 1000000000
        rcases pas_or n X K V cr (itr n X K V cr r).2 (itr n X K V cr r).1 n j with e | ⟨_, e⟩
        · rw [e]; exact ih.2 j hj
        · rw [e]; exact ih.1
      exact ⟨hx _ _ (fun j q => (hj j q).1) ih.1.1 n (Nat.le_refl _), hj⟩
  exact fun r => (main r).2
def sdB (n : Nat) (X : Nat → Int) (K : Nat → Nat) (V : Nat → Nat → Int) (cr : Int) : Bool := jobsB n X K V && inB 1 10 cr
def sdN (n : Nat) (X : Nat → Int) (K : Nat → Nat) (V : Nat → Nat → Int) (cr : Int) : Nat := if sdB n X K V cr = true then n else 0
def sdE (n : Nat) (X : Nat → Int) (K : Nat → Nat) (V : Nat → Nat → Int) (cr : Int) (FI : Nat → Int) : Int := if sdB n X K V cr = true then lastF X FI n else -1
def SdPost (n : Nat) (X : Nat → Int) (K : Nat → Nat) (V : Nat → Nat → Int) (cr : Int) (FI : Nat → Int) (w : World) (e : Ending) (w' : World) : Prop := ∃ (s : Option Addr) (c : Nat), e = .returned (.tuple #[.slice s (sdN n X K V cr) c, .int .i64 (sdE n X K V cr FI)]) ∧ OwnI w.heap.size w' s (sdN n X K V cr) FI ∧ Below w.heap.size w w'
theorem sd_no {n : Nat} {X : Nat → Int} {K : Nat → Nat} {V : Nat → Nat → Int} {cr : Int} {FI : Nat → Int} {w w' : World} {s : Option Addr} {c : Nat} (h : sdB n X K V cr = false) (hb : Below w.heap.size w w') : SdPost n X K V cr FI w (.returned (.tuple #[.slice s 0 c, .int .i64 (-1)])) w' := by
  have e1 : sdN n X K V cr = 0 := by unfold sdN; rw [h]; rfl
  have e2 : sdE n X K V cr FI = -1 := by unfold sdE; rw [h]; rfl
  refine ⟨s, c, ?_, ?_, hb⟩
  · rw [e1, e2]
  · rw [e1]; exact fun j hj => by omega
theorem sd_yes {n : Nat} {X : Nat → Int} {K : Nat → Nat} {V : Nat → Nat → Int} {cr : Int} {FI : Nat → Int} {w w' : World} {s : Option Addr} {c : Nat} {E : Int} (h : sdB n X K V cr = true) (hE : lastF X FI n = E) (ho : OwnI w.heap.size w' s n FI) (hb : Below w.heap.size w w') : SdPost n X K V cr FI w (.returned (.tuple #[.slice s n c, .int .i64 E])) w' := by
  have e1 : sdN n X K V cr = n := by unfold sdN; rw [h]; rfl
  have e2 : sdE n X K V cr FI = E := by unfold sdE; rw [h]; exact hE
  refine ⟨s, c, ?_, ?_, hb⟩
  · rw [e1, e2]
  · rw [e1]; exact ho
theorem BegAt.rep {w : World} {b n : Nat} {x : Int} (h : RepAt w b n n x) : BegAt w b n (fun _ => x) := by
  have h' : w.heap[b]? = some (.cells (rpC x n n).toArray 2 (0, 0)) := h
  refine ⟨(Array.getElem?_eq_some_iff.1 h').1, fun o => by simp [World.frozen?, h'], fun j hj => h.cell hj⟩
theorem BegAt.own {w : World} {b n base : Nat} {B B' : Nat → Int} (h : BegAt w b n B) (hb : base ≤ b) (he : ∀ j, j < n → B j = B' j) : OwnI base w (some ⟨b, 0, none⟩) n B' := fun j hj => ⟨b, rfl, hb, h.1, by rw [← he j hj]; exact h.2.2 j hj, h.2.1 j⟩
theorem BegAt.far {w w' : World} {b n : Nat} {B : Nat → Int} (h : BegAt w b n B) (hb : Below w.heap.size w w') : BegAt w' b n B := h.below hb
/-- The int in a cell. -/
def cellI (w : World) (b j : Nat) : Int := match w.cell? ⟨b, j, none⟩ with
  | some (.int _ y) => y
  | _ => 0
theorem cellI_is {w : World} {b n : Nat} {B : Nat → Int} (h : BegAt w b n B) : ∀ j, j < n → cellI w b j = B j := fun j hj => by unfold cellI; rw [h.2.2 j hj]
theorem cntI_is {w : World} {b n : Nat} {B X : Nat → Int} {t : Int} (h : BegAt w b n B) : cntF X (cellI w b) t n = cntF X B t n := cnt_same n fun j hj => by rw [cellI_is h j hj]
/-- What a round comes to. -/
theorem round_to {n : Nat} {X : Nat → Int} {K : Nat → Nat} {V : Nat → Nat → Int} {cr : Int} {I : Nat → Int} {t : Int} (hn : n ≤ 40) (hcr : 1 ≤ cr) (hV : ∀ j, j < n → ∀ i, i < K j → 0 ≤ V j i ∧ V j i < (j : Int)) (h : RunI n X I t) (he : ∃ j, j < n ∧ I j = nob) :
    (RunI n X (pasF n X K V cr t I n) (nxI X (pasF n X K V cr t I n) t n) ∨ ∀ j, j < n → pasF n X K V cr t I n j ≠ nob) ∧ cntF X (pasF n X K V cr t I n) (nxI X (pasF n X K V cr t I n) t n) n < cntF X I t n := by
  have nbv : nob = 1000000000 := rfl
  have hp := run_pass (X := X) (K := K) (V := V) (cr := cr) hn h
  have hg := run_good hn h
  have hgp := run_good hn hp
  have hc : cntF X (pasF n X K V cr t I n) t n = cntF X I t n := cnt_same n fun j hj => by
    have q := (hg.2 j hj).1
    rcases pas_or n X K V cr t I n j with e | ⟨e1, e2⟩
    · rw [e]
    · rw [e1, e2]; have := hg.1; omega
  rcases nx_is hgp n (Nat.le_refl _) with ⟨a1, a2, a3⟩ | ⟨a1, a2, a3, a4⟩
  · have hall := pass_done hn hcr hV h a3
    refine ⟨Or.inr hall, ?_⟩
    rw [a1]
    obtain ⟨j, hj, ej⟩ := he
    have q := (hg.2 j hj).1
    have p1 := cnt_pos (X := X) (I := I) (t := t) n hj (by rw [ej]; have := hg.1; omega)
    have p2 : cntF X (pasF n X K V cr t I n) nob n = 0 := by
      have : ∀ k, k ≤ n → cntF X (pasF n X K V cr t I n) nob k = 0 := by
        intro k
        induction k with
        | zero => intro _; rfl
        | succ k ih =>
          intro hk
          show cntF X _ nob k + _ = 0
          rw [ih (by omega), if_neg]
          have := (hgp.2 k (by omega))
          have := hall k (by omega)
          have := hgp.1
          omega
      exact this n (Nat.le_refl _)
    omega
  · have := run_next hp a1 a2 a4
    exact ⟨Or.inl this.1, by omega⟩
theorem keepRT {w w' : World} {p b : Nat} {x y : Value} (h : Turn (fun k => k = b) w w') (hp : p < w.heap.size) (hn : p ≠ b) (h0 : w.cell? ⟨p, 0, none⟩ = some x) (h1 : w.cell? ⟨p, 1, none⟩ = some y) : w'.cell? ⟨p, 0, none⟩ = some x ∧ w'.cell? ⟨p, 1, none⟩ = some y := ⟨(h.cell (p := ⟨p, 0, none⟩) hp hn).trans h0, (h.cell (p := ⟨p, 1, none⟩) hp hn).trans h1⟩
set_option maxRecDepth 20000 in
set_option maxHeartbeats 8000000 in
theorem implSchedule_any (s : Option Addr) (n c : Nat) (X : Nat → Int) (K : Nat → Nat) (V : Nat → Nat → Int) (cr : Int) (FI : Nat → Int) (w : World) (hn : (n : Int) ≤ 1048576) (HK : Hid (∀ i, i < n → (K i : Int) ≤ 1048576)) (HF : Hid (∀ r, (∀ j, j < n → (itr n X K V cr r).1 j ≠ nob) → ∀ j, j < n → (itr n X K V cr r).1 j = FI j)) (HR : Hid (RowJbs w s n X K V)) (HE : Hid (ErrJ w)) :
    Calls Tryd.prog 11 #[.slice s n c, .int .i64 cr] w fun e w' => SdPost n X K V cr FI w e w' := by
  have HX : Hid (∀ w1, Below w.heap.size w w1 → ErrJ w1) := fun w1 hb => HE.out.below hb
  go_enter Tryd.func11, Tryd.ntmps11
  go_wp2_with fail
  refine (jobsMisfit_any s n c X K V _ hn HK HR HE).mono ?_
  rintro e w1 ⟨v, rfl, hv, h1⟩
  have HV : Hid (MisV v (jobsB n X K V)) := hv
  have B1 : Below w.heap.size w w1 := h1
  clear hv h1
  go_wp2_with fail
  refine (refused_any v (jobsB n X K V) _ HV (HX.out _ B1).1).mono ?_
  rintro e w2 ⟨rfl, h2⟩
  replace B1 : Below w.heap.size w w2 := B1.trans (h2.mono B1.size)
  clear h2 HV HX HE
  cases hc : jobsB n X K V
  · have HO : Hid (sdB n X K V cr = false) := by show _ = _; unfold sdB; rw [hc]; rfl
    go_wp2
    exact bodyPost_ret (v := .tuple #[.slice none 0 0, .int .i64 (-1)]) (by simp [results, Tryd.results11, go_sem]) rfl (sd_no HO.out (by repeat (first | with_reducible exact Below.refl _ _ | with_reducible exact B1 | with_reducible refine Below.setCell ?_ (by first | omega | (simp; done) | (simp; omega)) _ | with_reducible refine bDrewN ?_ _ | with_reducible refine Below.drew ?_ | with_reducible refine Below.alloc ?_ (by first | omega | (simp; done) | (simp; omega)) _)))
  go_wp2_with fail
  refine (within_is _ _ _ _).mono ?_
  rintro e w2 ⟨rfl, rfl⟩
  cases h0 : inB 1 10 cr
  · have HO : Hid (sdB n X K V cr = false) := by show _ = _; unfold sdB; rw [h0]; simp
    go_wp2
    exact bodyPost_ret (v := .tuple #[.slice none 0 0, .int .i64 (-1)]) (by simp [results, Tryd.results11, go_sem]) rfl (sd_no HO.out (by repeat (first | with_reducible exact Below.refl _ _ | with_reducible exact B1 | with_reducible refine Below.setCell ?_ (by first | omega | (simp; done) | (simp; omega)) _ | with_reducible refine bDrewN ?_ _ | with_reducible refine Below.drew ?_ | with_reducible refine Below.alloc ?_ (by first | omega | (simp; done) | (simp; omega)) _)))
  have HO : Hid (sdB n X K V cr = true) := by show _ = _; unfold sdB; rw [hc, h0]; rfl
  have cr1 := (inB_yes h0).1
  have n4 := (jobs_yes hc).1
  have n5 : (n : Int) ≤ 40 := by omega
  have HJ : Hid (∀ j, j < n → (1 ≤ X j ∧ X j ≤ 1000) ∧ (∀ i, i < K j → 0 ≤ V j i ∧ V j i < (j : Int))) := job_good hc
  have HVJ : Hid (∀ j, j < n → ∀ i, i < K j → 0 ≤ V j i ∧ V j i < (j : Int)) := fun j hj => (HJ.out j hj).2
  have HB1 : Hid (Below w.heap.size w w2) := B1
  have zw : w.heap.size ≤ w2.heap.size := B1.size
  clear hc h0 B1
  go_wp2_with fail
  refine (repeat_any w2.heap.size n 1000000000 _ n4 (by simp) (by simp [go_sem])).mono ?_
  rintro e w3 ⟨rfl, hr3, h3⟩
  have hs : (w2.alloc (.cells #[.int .i64 1000000000] 2)).heap.size = w2.heap.size + 1 := by simp
  rw [hs] at hr3
  have HT3 : Hid (BegAt w3 (w2.heap.size + 1) n (itr n X K V cr 0).1) := BegAt.rep hr3
  have B3 : Below w2.heap.size w2 w3 := Below.trans (by repeat (first | with_reducible exact Below.refl _ _ | with_reducible refine Below.setCell ?_ (by first | omega | (simp; done) | (simp; omega)) _ | with_reducible refine bDrewN ?_ _ | with_reducible refine Below.drew ?_ | with_reducible refine Below.alloc ?_ (by first | omega | (simp; done) | (simp; omega)) _)) (h3.mono (by first | omega | (simp; done) | (simp; omega)))
  have z3 : w2.heap.size + 1 < w3.heap.size := HT3.out.1
  have HB3 : Hid (Below w.heap.size w w3) := HB1.out.trans (B3.mono zw)
  clear hs hr3 h3 B3 HB1
  go_upto_region 4 with fail
  obtain ⟨wa, hwa⟩ : ∃ wa, wa = w3.alloc (.cells #[.slice s n c, .slice (some ⟨w2.heap.size + 1, 0, none⟩) n n] 57) := ⟨_, rfl⟩
  rw [← hwa]
  have hb : Below w3.heap.size w3 wa := by rw [hwa]; exact below0 _ _
  have a0 : wa.cell? ⟨w3.heap.size, 0, none⟩ = some (.slice s n c) := by rw [hwa]; simp [go_sem]
  have a1 : wa.cell? ⟨w3.heap.size, 1, none⟩ = some (.slice (some ⟨w2.heap.size + 1, 0, none⟩) n n) := by rw [hwa]; simp [go_sem]
  have za : w3.heap.size < wa.heap.size := by rw [hwa]; simp
  have HTA : Hid (BegAt wa (w2.heap.size + 1) n (itr n X K V cr 0).1) := HT3.out.below hb
  have HBA : Hid (Below w.heap.size w wa) := HB3.out.trans (hb.mono HB3.out.size)
  have HRU : Hid (RunI n X (itr n X K V cr 0).1 (itr n X K V cr 0).2 ∨ ∀ j, j < n → (itr n X K V cr 0).1 j ≠ nob) := Or.inl ⟨⟨Int.le_refl _, by have := cnt_le X (itr n X K V cr 0).1 0 n; show (0 : Int) + 1000 * ((cntF X (itr n X K V cr 0).1 0 n : Nat) : Int) ≤ _; omega⟩, fun j hj => ⟨(HJ.out j hj).1, Or.inl rfl⟩, Or.inl rfl⟩
  clear hwa hb HT3 HB3
  go_wp2_with fail
  go_loopw [7] (fun v wr => ∃ r : Nat, v = .int .i64 (itr n X K V cr r).2 ∧ Hid (BegAt wr (w2.heap.size + 1) n (itr n X K V cr r).1) ∧ wr.cell? ⟨w3.heap.size, 0, none⟩ = some (.slice s n c) ∧ wr.cell? ⟨w3.heap.size, 1, none⟩ = some (.slice (some ⟨w2.heap.size + 1, 0, none⟩) n n) ∧ w3.heap.size < wr.heap.size ∧ Hid (RunI n X (itr n X K V cr r).1 (itr n X K V cr r).2 ∨ ∀ j, j < n → (itr n X K V cr r).1 j ≠ nob) ∧ Below w.heap.size w wr) (fun v wr => cntF X (cellI wr (w2.heap.size + 1)) (intOf v) n)
  case atStart => exact ⟨0, rfl, HTA, a0, a1, za, HRU, HBA.out⟩
  case round =>
    obtain ⟨r, rfl, HTr, q0, q1, zr, HRr, hB⟩ := hrel
    have HBr : Hid (Below w.heap.size w wr) := hB
    go_wp2_with fail
    refine (contains_any (some ⟨w2.heap.size + 1, 0, none⟩) n n (itr n X K V cr r).1 1000000000 _ (by omega) HTr.out.row).mono ?_
    rintro e wr ⟨rfl, rfl⟩
    cases hh : hasB (itr n X K V cr r).1 n 1000000000
    · have hall : ∀ j, j < n → (itr n X K V cr r).1 j ≠ nob := fun j hj e => (of_decide_eq_false hh) ⟨j, hj, e⟩
      have HFI : Hid (∀ j, j < n → (itr n X K V cr r).1 j = FI j) := HF.out r hall
      have HGG : Hid (∀ j, j < n → (1 ≤ X j ∧ X j ≤ 1000) ∧ 0 ≤ FI j ∧ FI j ≤ 1000000000) := by
        intro j hj
        refine ⟨(HJ.out j hj).1, ?_⟩
        have hw := HTr.out
        rw [← HFI.out j hj]
        exact itr_in HJ.out r j hj
      have HCL : Hid (∀ w1, Below wr.heap.size wr w1 → Calls Tryd.prog 33 #[.agg #[.slice s n c, .slice (some ⟨w2.heap.size + 1, 0, none⟩) n n]] w1 fun e w' => e = .returned (.int .i64 (lastF X FI n)) ∧ Below w1.heap.size w1 w') := fun w1 hb => lastEnd_any s (some ⟨w2.heap.size + 1, 0, none⟩) n c n X K V FI w1 n5 ((HR.out.below HBr.out).below hb) (((HTr.out.own (base := 0) (Nat.zero_le _) HFI.out).row).below hb) HGG
      have HOW : Hid (OwnI w.heap.size wr (some ⟨w2.heap.size + 1, 0, none⟩) n FI) := HTr.out.own (by omega) HFI.out
      clear hall hh HGG
      go_upto_region 8 with fail
      refine wp_region_held_drew (S := fun w' => w'.cell? ⟨w3.heap.size, 0, none⟩ = some (.slice s n c) ∧ w'.cell? ⟨w3.heap.size, 1, none⟩ = some (.slice (some ⟨w2.heap.size + 1, 0, none⟩) n n)) (by kernel_rfl) ?_ (fun hHeld => ?_)
      · exact keep2R q0 q1 zr (by repeat (first | with_reducible exact Below.refl _ _ | with_reducible refine Below.setCell ?_ (by first | omega | (simp; done) | (simp; omega)) _ | with_reducible refine bDrewN ?_ _ | with_reducible refine Below.drew ?_ | with_reducible refine Below.alloc ?_ (by first | omega | (simp; done) | (simp; omega)) _))
      refine wpAnyH_take (i := 0) (v := .pointer (some ⟨w3.heap.size, 1, none⟩)) rfl (by kernel_rfl) (by kernel_rfl) (by kernel_rfl) (fun _ _ _ h => h) (Or.inl ⟨by kernel_rfl, ?_⟩) hHeld ?_
      · intro w' hSw
        obtain ⟨s0, s1⟩ := hSw
        first | (go_simp; done) | (go_simp; with_reducible rfl) | (go_simp; rw [IntKind.wrap_i64]; omega) | (go_simp; omega)
      simp only [Act.put, List.setIfInBounds_toArray, List.set_cons_zero, List.set_cons_succ]
      refine wpAnyH_take (i := 1) (v := .slice (some ⟨w2.heap.size + 1, 0, none⟩) n n) rfl (by kernel_rfl) (by kernel_rfl) (by kernel_rfl) (fun _ _ _ h => h) (Or.inl ⟨by kernel_rfl, ?_⟩) hHeld ?_
      · intro w' hSw
        obtain ⟨s0, s1⟩ := hSw
        first | (go_simp; done) | (go_simp; with_reducible rfl) | (go_simp; rw [IntKind.wrap_i64]; omega) | (go_simp; omega)
      simp only [Act.put, List.setIfInBounds_toArray, List.set_cons_zero, List.set_cons_succ]
      refine wpAnyH_take (i := 2) (v := .agg #[.slice s n c, .slice (some ⟨w2.heap.size + 1, 0, none⟩) n n]) rfl (by kernel_rfl) (by kernel_rfl) (by kernel_rfl) (fun _ _ _ h => h) (Or.inl ⟨by kernel_rfl, ?_⟩) hHeld ?_
      · intro w' hSw
        obtain ⟨s0, s1⟩ := hSw
        first | (go_simp; done) | (go_simp; with_reducible rfl) | (go_simp; rw [IntKind.wrap_i64]; omega) | (go_simp; omega)
      simp only [Act.put, List.setIfInBounds_toArray, List.set_cons_zero, List.set_cons_succ]
      refine wpAnyH_ready (rs := [3]) (by kernel_rfl) (by simp) ?_
      refine AllReadyH.cons rfl (fun KK hK => ?_) AllReadyH.nil
      go_simp
      go_wp2_with (first | (go_at_call 33; refine (HCL.out _ (by repeat (first | with_reducible exact Below.refl _ _ | with_reducible refine Below.setCell ?_ (by first | omega | (simp; done) | (simp; omega)) _ | with_reducible refine bDrewN ?_ _ | with_reducible refine Below.drew ?_ | with_reducible refine Below.alloc ?_ (by first | omega | (simp; done) | (simp; omega)) _))).mono ?_; rintro e wz ⟨rfl, h8⟩; have B8 : Below wr.heap.size wr wz := Below.trans (by repeat (first | with_reducible exact Below.refl _ _ | with_reducible refine Below.setCell ?_ (by first | omega | (simp; done) | (simp; omega)) _ | with_reducible refine bDrewN ?_ _ | with_reducible refine Below.drew ?_ | with_reducible refine Below.alloc ?_ (by first | omega | (simp; done) | (simp; omega)) _)) (h8.mono (by first | omega | (simp; done) | (simp; omega))); clear h8))
      refine hK.out _ _ (keep2R q0 q1 zr B8) (fun hHeld => ?_)
      clear hK KK
      refine wpAnyH_take (i := 4) (v := .slice (some ⟨w2.heap.size + 1, 0, none⟩) n n) rfl (by kernel_rfl) (by kernel_rfl) (by kernel_rfl) (fun _ _ _ h => h) (Or.inl ⟨by kernel_rfl, ?_⟩) hHeld ?_
      · intro w' hSw
        obtain ⟨s0, s1⟩ := hSw
        first | (go_simp; done) | (go_simp; with_reducible rfl) | (go_simp; rw [IntKind.wrap_i64]; omega) | (go_simp; omega)
      simp only [Act.put, List.setIfInBounds_toArray, List.set_cons_zero, List.set_cons_succ]
      refine wpAnyH_ready (rs := [5]) (by kernel_rfl) (by simp) ?_
      refine AllReadyH.cons rfl (fun KK hK => ?_) AllReadyH.nil
      go_simp
      refine hK.out _ _ hHeld (fun hHeld => ?_)
      clear hK KK
      refine wpAnyH_done (by kernel_rfl) ?_ _
      clear hHeld
      have BZ : Below w.heap.size w wz := HBr.out.trans (B8.mono HBr.out.size)
      go_wp2
      exact bodyPost_ret (v := .tuple #[.slice (some ⟨w2.heap.size + 1, 0, none⟩) n n, .int .i64 (lastF X FI n)]) (by simp [results, Tryd.results11, go_sem]) rfl (sd_yes HO.out rfl (HOW.out.below B8) BZ)
    · have hex : ∃ j, j < n ∧ (itr n X K V cr r).1 j = nob := of_decide_eq_true hh
      have HRI : Hid (RunI n X (itr n X K V cr r).1 (itr n X K V cr r).2) := by
        rcases HRr.out with z | z
        · exact z
        · obtain ⟨j, hj, e⟩ := hex
          exact absurd e (z j hj)
      have HRT := round_to (X := X) (K := K) (V := V) (cr := cr) n4 cr1 HVJ.out HRI.out hex
      have HR1 : Hid (RunI n X (itr n X K V cr (r + 1)).1 (itr n X K V cr (r + 1)).2 ∨ ∀ j, j < n → (itr n X K V cr (r + 1)).1 j ≠ nob) := HRT.1
      have HR2 : Hid (cntF X (itr n X K V cr (r + 1)).1 (itr n X K V cr (r + 1)).2 n < cntF X (itr n X K V cr r).1 (itr n X K V cr r).2 n) := HRT.2
      have HGO : Hid (GoodI n X (itr n X K V cr r).1 (itr n X K V cr r).2) := run_good n4 HRI.out
      have HGP : Hid (GoodI n X (itr n X K V cr (r + 1)).1 (itr n X K V cr r).2) := run_good n4 (run_pass (X := X) (K := K) (V := V) (cr := cr) n4 HRI.out)
      have HNX : Hid (nxI X (itr n X K V cr (r + 1)).1 (itr n X K V cr r).2 n = (itr n X K V cr (r + 1)).2) := rfl
      have HPA : Hid (pasF n X K V cr (itr n X K V cr r).2 (itr n X K V cr r).1 n = (itr n X K V cr (r + 1)).1) := rfl
      have HMS : Hid (cntF X (cellI wr (w2.heap.size + 1)) (itr n X K V cr r).2 n = cntF X (itr n X K V cr r).1 (itr n X K V cr r).2 n) := cntI_is HTr.out
      clear hex hh HRT HRr
      have zb : w2.heap.size + 1 < wr.heap.size := HTr.out.1
      go_wp2_with fail
      refine (beginAt_any s (w2.heap.size + 1) n c X K V cr (itr n X K V cr r).2 (itr n X K V cr r).1 w _ n4 (by omega) HBr HK HVJ HR HGO HTr).mono ?_
      rintro e w5 ⟨rfl, hb5, ht5⟩
      rw [HPA.out] at hb5
      have HT5 : Hid (BegAt w5 (w2.heap.size + 1) n (itr n X K V cr (r + 1)).1) := hb5
      obtain ⟨p0, p1⟩ := keepRT ht5 zr (by omega) q0 q1
      have z5 : w3.heap.size < w5.heap.size := Nat.lt_of_lt_of_le zr ht5.size
      have HB5 : Hid (Below w.heap.size w w5) := HBr.out.trans (ht5.below (fun k hk => by subst hk; omega) HBr.out.size)
      clear hb5 ht5 q0 q1
      go_wp2_with fail
      refine (nextEnd_any s (some ⟨w2.heap.size + 1, 0, none⟩) n c n X K V (itr n X K V cr (r + 1)).1 (itr n X K V cr r).2 _ n5 (HR.out.below HB5.out) HT5.out.row (fun j hj => ⟨(HJ.out j hj).1, by have q := (HGP.out.2 j hj).2; have := HGP.out.1; have nbv : nob = 1000000000 := rfl; omega⟩)).mono ?_
      rintro e w6 ⟨rfl, h6⟩
      have HT6 : Hid (BegAt w6 (w2.heap.size + 1) n (itr n X K V cr (r + 1)).1) := HT5.out.below h6
      replace p0 := (h6.cell (p := ⟨w3.heap.size, 0, none⟩) z5).trans p0
      replace p1 := (h6.cell (p := ⟨w3.heap.size, 1, none⟩) z5).trans p1
      have B6 : Below w.heap.size w w6 := HB5.out.trans (h6.mono HB5.out.size)
      replace z5 := Nat.lt_of_lt_of_le z5 h6.size
      have HM6 : Hid (cntF X (cellI w6 (w2.heap.size + 1)) (itr n X K V cr (r + 1)).2 n = cntF X (itr n X K V cr (r + 1)).1 (itr n X K V cr (r + 1)).2 n) := cntI_is HT6.out
      rw [HNX.out]
      clear h6 HNX HT5 HB5
      go_wp2
      go_roundw
      case rel => exact ⟨r + 1, rfl, HT6, p0, p1, z5, HR1, B6⟩
      case measure =>
        show cntF X (cellI w6 (w2.heap.size + 1)) (itr n X K V cr (r + 1)).2 n < cntF X (cellI wr (w2.heap.size + 1)) (itr n X K V cr r).2 n
        rw [HM6.out, HMS.out]
        exact HR2.out
end Go.Proofs.YtffjhbgnhnnfiaaDoor
