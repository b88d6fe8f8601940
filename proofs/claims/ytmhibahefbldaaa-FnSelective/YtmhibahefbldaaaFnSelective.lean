/-
What is proved: where a drawn feeder is told to be selective, each section's fault is cleared by its own relay; where it is told not to be at a section, and none ahead of that is, a relay ahead of it is too quick there, or its own does not trip; at every code, no condition.
-/
import Derived.Test.YtmhibahefbldaaaRlF
import Derived.Test.YtmhibahefbldaaaSlS
import Derived.Test.YtmhibahefbldaaaSlI
import Derived.Test.YtmhibahefbldaaaOpen8
import Derived.Deep.RegionHeld3
import Derived.Deep.DeepCutAuto
namespace Go.Proofs.Ytmhibahefbldaaa
set_option maxRecDepth 40000
open Go.ChangeShapes Go.WideShapes Go.ChangeAt Go.RowKit
set_option linter.unusedVariables false
set_option linter.unusedSimpArgs false

theorem go_parts {n : Nat} {V : Nat → Int} {m : Nat} {A : Nat → Int} {ap : Int} (h : goS n V m A ap = true) : feedB n V = true ∧ m = n ∧ (∀ j, j < m → 0 ≤ A j ∧ A j ≤ 1000000) ∧ 0 ≤ ap ∧ ap ≤ 1000000 := by
  unfold goS at h
  simp only [Bool.and_eq_true, decide_eq_true_iff] at h
  obtain ⟨h1, h2, h3, h4⟩ := h
  have h5 := inB_yes h4
  exact ⟨h1, h2, of_decide_eq_true h3, h5.1, h5.2⟩
theorem cl_own {n : Nat} {V : Nat → Int} {a ap : Int} {k : Nat} {x : Int} (hf : feedB n V = true) (hk : k < n) (ha : 0 ≤ a ∧ a ≤ 1000000) (hp : 0 ≤ ap) (h : apB V a ap k = true) (hc : ClV n V k a x) : x = k := by
  obtain ⟨d0, dj⟩ := ap_of h
  have hg : goC n V k a = true := by
    unfold goC inB
    rw [hf, decide_eq_true (by omega), decide_eq_true ha]; rfl
  rcases hc with ⟨h1, _⟩ | ⟨_, hb⟩
  · rw [hg] at h1; cases h1
  · rw [Int.toNat_natCast] at hb
    refine hb.one (.inr ⟨k, rfl, by omega, by omega, d0, fun j j0 j1 j2 => ?_⟩)
    by_cases e : j = k
    · subst e; exact .inr ⟨rfl, Nat.le_refl _⟩
    · have := dj j (by omega) j2; omega
def qkB (V : Nat → Int) (a ap : Int) (k i : Nat) : Bool := decide (dl V a k < 0) || !decide (∀ j, j < i → 0 ≤ dl V a j → dl V a k + ap ≤ dl V a j)
theorem qk_start (V : Nat → Int) (a ap : Int) (k : Nat) : qkB V a ap k 0 = decide (dl V a k < 0) := by
  unfold qkB; rw [decide_eq_true (p := ∀ j, j < 0 → _) (fun j hj => by omega)]; simp
theorem qk_on (V : Nat → Int) (a ap : Int) (k i : Nat) : qkB V a ap k (i + 1) = (qkB V a ap k i || (decide (0 ≤ dl V a i) && decide (dl V a i < dl V a k + ap))) := by
  unfold qkB
  rw [Bool.eq_iff_iff]
  simp only [Bool.or_eq_true, Bool.and_eq_true, decide_eq_true_iff, Bool.not_eq_true', decide_eq_false_iff_not]
  constructor
  · rintro (h | h)
    · exact .inl (.inl h)
    · by_cases q : 0 ≤ dl V a i ∧ dl V a i < dl V a k + ap
      · exact .inr q
      · refine .inl (.inr fun hh => h fun j hj h0 => ?_)
        by_cases e : j = i
        · subst e; omega
        · exact hh j (by omega) h0
  · rintro ((h | h) | ⟨h1, h2⟩)
    · exact .inl h
    · exact .inr fun hh => h fun j hj h0 => hh j (by omega) h0
    · exact .inr fun hh => by have := hh i (by omega) h1; omega
theorem qk_end {V : Nat → Int} {a ap : Int} {k : Nat} (h : apB V a ap k = false) : qkB V a ap k k = true := by
  unfold qkB
  simp only [Bool.or_eq_true, decide_eq_true_iff, Bool.not_eq_true', decide_eq_false_iff_not]
  by_cases q : dl V a k < 0
  · exact .inl q
  · refine .inr fun hh => ?_
    rw [ap_yes (by omega) hh] at h; cases h
set_option maxHeartbeats 400000 in
theorem fnSel_far (w : World) (s : Option Addr) (n c : Nat) (h : (1048576 : Int) < n) :
    Calls Try.prog 6 #[.slice s n c] w fun e w' => e = .returned (.bool true) ∧ Below w.heap.size w w' := by
  go_enter Try.func6, Try.ntmps6
  go_wp2_with fail
  refine (big_yes _ _ _ _ h).mono ?_
  rintro e w1 ⟨rfl, rfl⟩
  go_wp2
  go_ret
  exact ⟨rfl, Below.refl _ _⟩
set_option maxRecDepth 20000 in
set_option maxHeartbeats 16000000 in
theorem fnSel_near (w : World) (sc : Option Addr) (nc cc : Nat) (h : (nc : Int) ≤ 1048576) (HC : Hid (Code8 w sc nc)) :
    Calls Try.prog 6 #[.slice sc nc cc] w fun e w' => e = .returned (.bool true) ∧ Below w.heap.size w w' := by
  go_enter Try.func6, Try.ntmps6
  go_wp2_with fail
  refine (big_no _ _ _ _ h).mono ?_
  rintro e w0 ⟨rfl, rfl⟩
  go_wp2_with fail
  refine (drawSelective_any HC.out).mono ?_
  rintro e w1 ⟨n, s, c, V, m, sa, ca, A, ap, rfl, n30, hcap, m40, R1, A1, B1⟩
  have HR1 : Hid (RowI w1 s (n * 2) V) := R1
  have HA1 : Hid (RowI w1 sa m A) := A1
  have HB1 : Hid (Below w0.heap.size w0 w1) := B1
  clear R1 A1 B1
  have hn : (n : Int) ≤ 1048576 := by omega
  have hm : (m : Int) ≤ 1048576 := by omega
  go_wp2_with fail
  refine (implSelective_any s n c V sa m ca A ap _ hn hm hcap HR1.out HA1.out).mono ?_
  rintro e w2 ⟨x, X1, rfl, h2⟩
  have HX : Hid (SelV n V m A ap x) := X1
  have HR2 : Hid (RowI w2 s (n * 2) V) := HR1.out.below h2
  have HA2 : Hid (RowI w2 sa m A) := HA1.out.below h2
  have HB2 : Hid (Below w0.heap.size w0 w2) := HB1.out.trans (h2.mono HB1.out.size)
  clear X1 h2 HR1 HA1 HB1
  go_wp2_with fail
  refine (specSelective_any s n c V sa m ca A ap _ hn hm hcap HR2.out HA2.out).mono ?_
  rintro e w3 ⟨x', X2, rfl, h3⟩
  obtain rfl : x = x' := HX.out.one X2
  have HR : Hid (RowI w3 s (n * 2) V) := HR2.out.below h3
  have HA : Hid (RowI w3 sa m A) := HA2.out.below h3
  have HB3 : Hid (Below w0.heap.size w0 w3) := HB2.out.trans (h3.mono HB2.out.size)
  clear X2 h3 HR2 HA2 HB2
  rcases HX.out with ⟨hg, hx⟩ | ⟨hg, hx⟩
  · subst hx
    have BF := HB3.out
    clear hg
    go_wp2
    go_ret
    exact ⟨rfl, BF⟩
  obtain ⟨hfe, hmn, hal, p0, p1⟩ := go_parts hg
  have HF : Hid (feedB n V = true) := hfe
  have HAL : Hid (∀ j, j < m → 0 ≤ A j ∧ A j ≤ 1000000) := hal
  subst hmn
  have HS : Hid ((x = -1 ∧ ∀ k, k < m → apB V (A k) ap k = true) ∨ ∃ k : Nat, k < m ∧ x = k ∧ apB V (A k) ap k = false ∧ ∀ j, j < k → apB V (A j) ap j = true) := hx
  have nx : (x == -2) = false := by
    have : ¬ x = -2 := by rcases hx with ⟨rfl, _⟩ | ⟨k, _, rfl, _⟩ <;> omega
    simpa using this
  have HP : Hid (∀ k : Nat, k < m → (∀ k0 : Nat, x = k0 → k < k0) → apB V (A k) ap k = true) := by
    show ∀ k : Nat, _
    intro k hk hh
    rcases hx with ⟨_, hx⟩ | ⟨k0, _, e, _, hx⟩
    · exact hx k hk
    · exact hx k (hh k0 e)
  have HQ : Hid (∀ k : Nat, x = k → apB V (A k) ap k = false) := by
    show ∀ k : Nat, _
    intro k e
    rcases hx with ⟨rfl, _⟩ | ⟨k0, _, e0, h0, _⟩
    · omega
    · obtain rfl : k = k0 := by omega
      exact h0
  clear hg hfe hal hx HX HS
  go_wp2_with fail
  go_loopw [7] (fun i wr => ∃ k : Nat, k ≤ m ∧ i = .int .i64 k ∧ Hid (∀ k0 : Nat, x = k0 → k ≤ k0) ∧ Hid (Below w3.heap.size w3 wr)) (fun i _ => m - (intOf i).toNat)
  case atStart => exact ⟨0, Nat.zero_le _, rfl, (fun k0 _ => Nat.zero_le _), Below.refl _ _⟩
  case round =>
    obtain ⟨k, hk, rfl, HL, HW⟩ := hrel
    by_cases hlt : k < m
    case neg =>
      have BF := HB3.out.trans (HW.out.mono HB3.out.size)
      have kn : ¬ (k : Int) < (m : Int) := by omega
      go_wp2
      go_ret
      exact ⟨rfl, BF⟩
    have k1 : (k : Int) < (m : Int) := by omega
    have hB := HW.out
    obtain ⟨g, o, rfl, hg, c0⟩ := HR.out (k * 2) (by omega)
    obtain ⟨g', o', e', hg1, c1⟩ := HR.out (k * 2 + 1) (by omega)
    cases e'
    have d0 : wr.cell? ⟨g, o + k * 2, none⟩ = some (.int .i64 (V (k * 2))) := (hB.cell (p := ⟨g, o + k * 2, none⟩) hg).trans c0
    have d1 : wr.cell? ⟨g, o + k * 2 + 1, none⟩ = some (.int .i64 (V (k * 2 + 1))) := (hB.cell (p := ⟨g, o + (k * 2 + 1), none⟩) hg).trans c1
    have zg : g < wr.heap.size := Nat.lt_of_lt_of_le hg hB.size
    obtain ⟨ga, oa, rfl, hga, a0⟩ := HA.out k hlt
    have x0 : wr.cell? ⟨ga, oa + k, none⟩ = some (.int .i64 (A k)) := (hB.cell (p := ⟨ga, oa + k, none⟩) hga).trans a0
    have za : ga < wr.heap.size := Nat.lt_of_lt_of_le hga hB.size
    have HG : Hid (g < w3.heap.size ∧ ga < w3.heap.size) := ⟨hg, hga⟩
    have HAK : Hid (w3.cell? ⟨ga, oa + k, none⟩ = some (.int .i64 (A k))) := a0
    clear hB c0 c1 hg hg1 hga a0
    by_cases hkx : (k : Int) = x
    case neg =>
      have nk : ((k : Int) == x) = false := by simpa using hkx
      have HAP : Hid (apB V (A k) ap k = true) := HP.out k hlt (fun k0 e => by have := HL.out k0 e; omega)
      have HRw : Hid (RowI wr (some ⟨g, o, none⟩) (m * 2) V) := HR.out.below HW.out
      have HN : Hid (∀ k0 : Nat, x = k0 → k + 1 ≤ k0) := fun k0 e => by have := HL.out k0 e; omega
      have HCL : Hid (Calls Try.prog 13 #[.slice (some ⟨g, o, none⟩) m c, .int .i64 (k : Int), .int .i64 (A k)] wr fun e w' => e = .returned (.int .i64 (k : Int)) ∧ Below wr.heap.size wr w') := (implCleared_any _ m c V k (A k) wr hn hcap HRw.out).mono fun e w' ⟨y, c1, c2, c3⟩ => ⟨by rw [c2, cl_own HF.out hlt (HAL.out k hlt) p0 HAP.out c1], c3⟩
      clear HAP HRw hkx
      go_wp2_with fail
      refine HCL.out.mono ?_
      rintro e w4 ⟨rfl, h4⟩
      have B4 : Hid (Below w3.heap.size w3 w4) := HW.out.trans (h4.mono HW.out.size)
      clear h4
      go_wp2
      go_roundw
      case rel => exact ⟨k + 1, by omega, by go_num, HN.out, B4.out⟩
      case measure => simp [intOf]; omega
    have HAF : Hid (apB V (A k) ap k = false) := HQ.out k hkx.symm
    subst hkx
    have HD : Hid (dl V (A k) k = delV (V (k * 2)) (V (k * 2 + 1)) (A k)) := rfl
    have dr := del_rng (V (k * 2)) (V (k * 2 + 1)) (A k)
    obtain ⟨D, hD⟩ : ∃ D, delV (V (k * 2)) (V (k * 2 + 1)) (A k) = D := ⟨_, rfl⟩
    have HI : Hid (∀ w, Calls Try.prog 9 #[.agg #[.int .i64 (V (k * 2)), .int .i64 (V (k * 2 + 1))], .int .i64 (A k)] w fun e w' => e = .returned (.int .i64 D) ∧ Below w.heap.size w w') := fun w => hD ▸ implDelay_any _ _ (A k) w
    rw [hD] at HD dr
    obtain ⟨dr0, dr1⟩ := dr
    clear hD
    go_upto_region 13 with fail
    go_cut [8] (fun q wx => q = .int .i64 D ∧ Below wr.heap.size wr wx)
    case first =>
      go_region_held3 (fun w' => w'.cell? ⟨g, o + k * 2, none⟩ = some (.int .i64 (V (k * 2))) ∧ w'.cell? ⟨g, o + k * 2 + 1, none⟩ = some (.int .i64 (V (k * 2 + 1))) ∧ w'.cell? ⟨ga, oa + k, none⟩ = some (.int .i64 (A k))) (first | (refine keepS d0 d1 x0 zg za ?_; exact (by repeat (first | with_reducible exact Below.refl _ _ | with_reducible exact B3 | with_reducible refine Below.setCell ?_ (by first | omega | (simp; done) | (simp; omega)) _ | with_reducible refine bDrewN ?_ _ | with_reducible refine Below.drew ?_ | with_reducible refine Below.alloc ?_ (by first | omega | (simp; done) | (simp; omega)) _)))) (first
        | (go_at_call 9; refine (HI.out _).mono ?_; rintro r w5 ⟨rfl, h5⟩; have B3 : Below wr.heap.size wr w5 := Below.trans (by repeat (first | with_reducible exact Below.refl _ _ | with_reducible refine Below.setCell ?_ (by first | omega | (simp; done) | (simp; omega)) _ | with_reducible refine bDrewN ?_ _ | with_reducible refine Below.drew ?_ | with_reducible refine Below.alloc ?_ (by first | omega | (simp; done) | (simp; omega)) _)) (h5.mono (by first | omega | (simp; done) | (simp; omega)))))
      all_goals
        go_wp2_with fail
        go_meet
        case rel => exact ⟨rfl, (by repeat (first | with_reducible exact Below.refl _ _ | with_reducible exact B3 | with_reducible refine Below.setCell ?_ (by first | omega | (simp; done) | (simp; omega)) _ | with_reducible refine bDrewN ?_ _ | with_reducible refine Below.drew ?_ | with_reducible refine Below.alloc ?_ (by first | omega | (simp; done) | (simp; omega)) _))⟩
    case rest =>
      obtain ⟨rfl, hB⟩ := hcut
      have BC : Hid (Below w3.heap.size w3 wc) := HW.out.trans (hB.mono HW.out.size)
      clear hB d0 d1 x0 HI
      have Q0 : Hid (qkB V (A k) ap k 0 = decide (D < 0)) := by show _ = _; rw [qk_start, HD.out]
      rename World => w5
      go_wp2_with fail
      go_loopw [9, 10] (fun qv i wr => ∃ j : Nat, j ≤ k ∧ i = .int .i64 j ∧ qv = .bool (qkB V (A k) ap k j) ∧ Hid (Below w3.heap.size w3 wr)) (fun _ i _ => k - (intOf i).toNat)
      case atStart => exact ⟨0, Nat.zero_le _, rfl, by rw [Q0.out], BC.out⟩
      case round =>
        obtain ⟨j, hj, rfl, rfl, HV⟩ := hrel
        by_cases jlt : j < k
        case neg =>
          obtain rfl : j = k := by omega
          have E : qkB V (A j) ap j j = true := qk_end HAF.out
          rw [E]
          have BF := HB3.out.trans (HV.out.mono HB3.out.size)
          have kn : ¬ (j : Int) < (j : Int) := by omega
          clear E
          go_wp2
          go_ret
          exact ⟨rfl, BF⟩
        have hB := HV.out
        obtain ⟨gm, om, eq1, hgm, c0⟩ := HR.out (j * 2) (by omega)
        cases eq1
        have hhgm := hgm
        obtain ⟨g', o', e', hgm1, c1⟩ := HR.out (j * 2 + 1) (by omega)
        cases e'
        have f0 : wr.cell? ⟨g, o + j * 2, none⟩ = some (.int .i64 (V (j * 2))) := (hB.cell (p := ⟨g, o + j * 2, none⟩) hhgm).trans c0
        have f1 : wr.cell? ⟨g, o + j * 2 + 1, none⟩ = some (.int .i64 (V (j * 2 + 1))) := (hB.cell (p := ⟨g, o + (j * 2 + 1), none⟩) hhgm).trans c1
        have yg : g < wr.heap.size := Nat.lt_of_lt_of_le hhgm hB.size
        have x0 : wr.cell? ⟨ga, oa + k, none⟩ = some (.int .i64 (A k)) := (hB.cell (p := ⟨ga, oa + k, none⟩) HG.out.2).trans HAK.out
        have za : ga < wr.heap.size := Nat.lt_of_lt_of_le HG.out.2 hB.size
        have j1 : (j : Int) < (k : Int) := by omega
        have j2 : (j : Int) < (m : Int) := by omega
        have HE : Hid (dl V (A k) j = delV (V (j * 2)) (V (j * 2 + 1)) (A k)) := rfl
        have dm := del_rng (V (j * 2)) (V (j * 2 + 1)) (A k)
        obtain ⟨E, hE⟩ : ∃ E, delV (V (j * 2)) (V (j * 2 + 1)) (A k) = E := ⟨_, rfl⟩
        have HJ2 : Hid (∀ w, Calls Try.prog 9 #[.agg #[.int .i64 (V (j * 2)), .int .i64 (V (j * 2 + 1))], .int .i64 (A k)] w fun e w' => e = .returned (.int .i64 E) ∧ Below w.heap.size w w') := fun w => hE ▸ implDelay_any _ _ (A k) w
        rw [hE] at HE dm
        obtain ⟨dm0, dm1⟩ := dm
        clear hE
        have HQK : Hid (qkB V (A k) ap k (j + 1) = (qkB V (A k) ap k j || (decide (0 ≤ E) && decide (E < D + ap)))) := by show _ = _; rw [qk_on, HE.out, HD.out]
        obtain ⟨qq, hqq⟩ : ∃ qq, qkB V (A k) ap k j = qq := ⟨_, rfl⟩
        rw [hqq] at HQK ⊢
        clear hqq hB c0 c1 hgm hhgm hgm1
        go_upto_region 18 with fail
        go_cut [11] (fun q wx => q = .int .i64 E ∧ Below wr.heap.size wr wx)
        case first =>
          go_region_held3 (fun w' => w'.cell? ⟨g, o + j * 2, none⟩ = some (.int .i64 (V (j * 2))) ∧ w'.cell? ⟨g, o + j * 2 + 1, none⟩ = some (.int .i64 (V (j * 2 + 1))) ∧ w'.cell? ⟨ga, oa + k, none⟩ = some (.int .i64 (A k))) (first | (refine keepS f0 f1 x0 yg za ?_; exact (by repeat (first | with_reducible exact Below.refl _ _ | with_reducible exact B3 | with_reducible refine Below.setCell ?_ (by first | omega | (simp; done) | (simp; omega)) _ | with_reducible refine bDrewN ?_ _ | with_reducible refine Below.drew ?_ | with_reducible refine Below.alloc ?_ (by first | omega | (simp; done) | (simp; omega)) _)))) (first
            | (go_at_call 9; refine (HJ2.out _).mono ?_; rintro r w6 ⟨rfl, h6⟩; have B3 : Below wr.heap.size wr w6 := Below.trans (by repeat (first | with_reducible exact Below.refl _ _ | with_reducible refine Below.setCell ?_ (by first | omega | (simp; done) | (simp; omega)) _ | with_reducible refine bDrewN ?_ _ | with_reducible refine Below.drew ?_ | with_reducible refine Below.alloc ?_ (by first | omega | (simp; done) | (simp; omega)) _)) (h6.mono (by first | omega | (simp; done) | (simp; omega)))))
          all_goals
            go_wp2_with fail
            go_meet
            case rel => exact ⟨rfl, (by repeat (first | with_reducible exact Below.refl _ _ | with_reducible exact B3 | with_reducible refine Below.setCell ?_ (by first | omega | (simp; done) | (simp; omega)) _ | with_reducible refine bDrewN ?_ _ | with_reducible refine Below.drew ?_ | with_reducible refine Below.alloc ?_ (by first | omega | (simp; done) | (simp; omega)) _))⟩
        case rest =>
          obtain ⟨rfl, hB⟩ := hcut
          have BD : Hid (Below w3.heap.size w3 wc) := HV.out.trans (hB.mono HV.out.size)
          clear hB f0 f1 x0 HJ2
          cases qq
          case true =>
            go_wp2
            go_roundw
            case rel => exact ⟨j + 1, by omega, by go_num, by rw [HQK.out]; simp, BD.out⟩
            case measure => simp [intOf]; omega
          by_cases q1 : 0 ≤ E
          case neg =>
            have b1 : decide (0 ≤ E) = false := decide_eq_false q1
            go_wp2
            go_roundw
            case rel => exact ⟨j + 1, by omega, by go_num, by rw [HQK.out]; simp [q1], BD.out⟩
            case measure => simp [intOf]; omega
          go_wp2
          go_roundw
          case rel => exact ⟨j + 1, by omega, by go_num, by rw [HQK.out]; simp [q1], BD.out⟩
          case measure => simp [intOf]; omega
theorem fnSelective_walk (w : World) (s : Option Addr) (n c : Nat) (hn : n ≤ 9223372036854775807) (R : Bytes w s n) :
    Calls Try.prog 6 #[.slice s n c] w fun e w' => e = .returned (.bool true) ∧ Below w.heap.size w w' := by
  by_cases h : n ≤ 1048576
  · exact fnSel_near w s n c (by omega) (R.code h)
  · exact fnSel_far w s n c (by omega)

set_option maxRecDepth 100000 in
theorem fnSelective_lifted (os : Os) (started : os.Started) (H : Type) (enc : TypeId × Value → H) :
    ReturnsInHanded {} Try.checked os 6 .any (Rows.fnSelectiveSpec.pre6 enc Try.prog Try.f6 Rows.fnSelectiveRow.domain false) (Rows.fnSelectiveSpec.post enc Try.prog Try.f6 false true false false) := by
  refine returnsInHanded_of_change (C := Try.checked) own started (by kernel_rfl) Try.func6
    (ChangeSpec.witness6 (enc := enc) (C := Try.checked) false ⟨#[], #[.slice none 0 0], []⟩ 8 (by kernel_rfl) (by kernel_rfl) (by kernel_rfl) (by kernel_rfl)) ?_
  intro W base args ds gs before hval0 hW hcnd _
  have hval : ∀ (j : Nat) t v, Try.f6.params[j]? = some t → args[j]? = some v → Value.okWide Try.prog W .any base t v := hval0
  have hW' := hW
  obtain ⟨p, q, hA0, hV, rfl, hfz, hnd⟩ := hW
  have hA : DataW.TrodAll enc Try.prog W 0 (fun _ => true) true Try.f6.params.toList args.toList ds p := hA0
  rw [Try.params6] at hA hval
  obtain ⟨v0, vs0, d0, ds0, p0, q0, hargs, rfl, rfl, h0, r0⟩ := trodAll_cons hA
  obtain ⟨rfl, rfl, rfl⟩ := trodAll_nil r0
  obtain rfl : args = #[v0] := by cases args; simp_all
  obtain ⟨rfl, rfl⟩ := trodVars_none hV
  have k0 := h0
  have lt0 : ∀ x ∈ p0, x.block < W.heap.size := by obtain ⟨m, hm⟩ := k0; exact DataW.trod_lt m _ _ _ hm
  obtain ⟨s0, n0, c0, rfl, m0, R0⟩ := open_code Try.underlying40 Try.underlying5 (by kernel_rfl) (hval 0 40 v0 rfl rfl) h0
  clear hA0 hval0
  refine (fnSelective_walk W s0 n0 c0 m0 R0).mono fun e W' ⟨he, bel⟩ => ?_
  subst he
  exact ⟨_, rfl, _, _, _, [], _, [], hW', trodAll_mk1 (shut_bool Try.underlying4 _), (trodAll_cons_mk (Below.trod laidOut (by kernel_rfl) (of_decide_eq_true (by kernel_rfl)) k0 bel lt0) trodAll_mk0), rfl, bel.frame _, fun h => by cases h⟩

theorem fnSelective_holds : Rows.FnSelectiveSaid :=
  OpenClaim.holds_of_wide 6 Try.f6 rfl rfl rfl rfl rfl rfl rfl ⟨rfl, rfl, rfl, rfl, rfl⟩ rfl rfl rfl rfl rfl (by kernel_rfl) Try.func6 (by kernel_rfl)
    (of_decide_eq_true (by kernel_rfl)) (by unfold Func.isWrapper; first | (rw [if_pos (by decide +kernel)]; kernel_rfl) | (rw [if_neg (by decide +kernel)]; exact ⟨rfl, rfl⟩))
    (fun os started H enc _ => fnSelective_lifted os started H enc)
#print axioms fnSelective_holds
end Go.Proofs.Ytmhibahefbldaaa
