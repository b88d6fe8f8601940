/-
What is proved: what each of the units gives, as the specification tells it.
-/
import Derived.Test.YtgekkblfnfclmaaFfS
import Derived.Test.YtgekkblfnfclmaaSh
import Derived.Deep.RegionHeld3
import Derived.Deep.DeepCutAuto
namespace Go.Proofs.Ytgekkblfnfclmaa
set_option maxRecDepth 40000
open Go.RowKit
set_option linter.unusedVariables false
set_option linter.unusedSimpArgs false

theorem keepU {W W' : World} {p i j : Nat} {a b : Value} (h0 : W.cell? ⟨p, i, none⟩ = some a) (h1 : W.cell? ⟨p, j, none⟩ = some b) (hp : p < W.heap.size) (hb : Below W.heap.size W W') : W'.cell? ⟨p, i, none⟩ = some a ∧ W'.cell? ⟨p, j, none⟩ = some b :=
  ⟨(hb.cell (p := ⟨p, i, none⟩) hp).trans h0, (hb.cell (p := ⟨p, j, none⟩) hp).trans h1⟩
set_option maxHeartbeats 1000000 in
theorem specShare_no (s : Option Addr) (n c : Nat) (V : Nat → Int) (load : Int) (w : World) (HV : Hid (FV n V load (-1))) (FF : Hid (∀ w', Below w.heap.size w w' → Calls Try.prog 7 #[.slice s n c, .int .i64 load] w' fun e w'' => e = .returned (.int .i64 (-1)) ∧ Below w'.heap.size w' w'')) :
    Calls Try.prog 11 #[.slice s n c, .int .i64 load] w fun e w' => ∃ m U s' c', SV n V load m U ∧ e = .returned (.slice s' m c') ∧ OwnI w.heap.size w' s' m U ∧ Below w.heap.size w w' := by
  go_enter Try.func11, Try.ntmps11
  go_wp2_with fail
  refine (FF.out _ (by repeat (first | with_reducible exact Below.refl _ _ | with_reducible refine Below.setCell ?_ (by first | omega | (simp; done) | (simp; omega)) _ | with_reducible refine bDrewN ?_ _ | with_reducible refine Below.drew ?_ | with_reducible refine Below.alloc ?_ (by first | omega | (simp; done) | (simp; omega)) _))).mono ?_
  rintro r w1 ⟨rfl, h1⟩
  have B1 : Below w.heap.size w w1 := Below.trans (by repeat (first | with_reducible exact Below.refl _ _ | with_reducible refine Below.setCell ?_ (by first | omega | (simp; done) | (simp; omega)) _ | with_reducible refine bDrewN ?_ _ | with_reducible refine Below.drew ?_ | with_reducible refine Below.alloc ?_ (by first | omega | (simp; done) | (simp; omega)) _)) (h1.mono (by first | omega | (simp; done) | (simp; omega)))
  go_wp2
  go_ret
  exact ⟨0, _, _, _, ⟨-1, HV.out, .inl ⟨rfl, rfl⟩, rfl⟩, rfl, fun j hj => by omega, B1⟩
set_option maxRecDepth 20000 in
set_option maxHeartbeats 4000000 in
theorem specShare_on (s : Option Addr) (n c : Nat) (V : Nat → Int) (load : Int) (w : World) (x m0 : Int) (x0 : 0 ≤ x) (x1 : x ≤ 1000000) (hn : (n : Int) ≤ 50) (l0 : 0 ≤ load) (l1 : load ≤ 50000000) (hm : 0 ≤ m0) (hm' : m0 ≤ 50000000) (hal : allV V x n = m0 + load) (HR : Hid (RowI w s (n * 2) V)) (HU : Hid (∀ j, j < n → unitB V j = true)) (HV : Hid (SV n V load n (shV V x m0))) (FF : Hid (∀ w', Below w.heap.size w w' → Calls Try.prog 7 #[.slice s n c, .int .i64 load] w' fun e w'' => e = .returned (.int .i64 x) ∧ Below w'.heap.size w' w''))
    (AL : Hid (∀ w', Below w.heap.size w w' → Calls Try.prog 21 #[.slice s n c, .int .i64 x] w' fun e w'' => e = .returned (.int .i64 (allV V x n)) ∧ Below w'.heap.size w' w''))
    (GV : Hid (∀ j f w, j < n → 0 ≤ f → f ≤ 1000000 → Calls Try.prog 29 #[.agg #[.int .i64 (V (j * 2)), .int .i64 (V (j * 2 + 1))], .int .i64 f] w fun e w' => e = .returned (.int .i64 (gvV V f j)) ∧ Below w.heap.size w w')) :
    Calls Try.prog 11 #[.slice s n c, .int .i64 load] w fun e w' => ∃ m U s' c', SV n V load m U ∧ e = .returned (.slice s' m c') ∧ OwnI w.heap.size w' s' m U ∧ Below w.heap.size w w' := by
  go_enter Try.func11, Try.ntmps11
  go_wp2_with fail
  refine (FF.out _ (by repeat (first | with_reducible exact Below.refl _ _ | with_reducible refine Below.setCell ?_ (by first | omega | (simp; done) | (simp; omega)) _ | with_reducible refine bDrewN ?_ _ | with_reducible refine Below.drew ?_ | with_reducible refine Below.alloc ?_ (by first | omega | (simp; done) | (simp; omega)) _))).mono ?_
  rintro r w1 ⟨rfl, h1⟩
  have B1 : Below w.heap.size w w1 := Below.trans (by repeat (first | with_reducible exact Below.refl _ _ | with_reducible refine Below.setCell ?_ (by first | omega | (simp; done) | (simp; omega)) _ | with_reducible refine bDrewN ?_ _ | with_reducible refine Below.drew ?_ | with_reducible refine Below.alloc ?_ (by first | omega | (simp; done) | (simp; omega)) _)) (h1.mono (by first | omega | (simp; done) | (simp; omega)))
  have O0 : (w.alloc (.cells #[] 2)).ownsRow w.heap.size 2 1 (.slice (some ⟨w.heap.size, 0, none⟩) 0 0) 0 (vals (shV V x m0) 0) := by simpa [vals] using World.ownsRow_lit (base := w.heap.size) (size := 1) (e := 2) w #[] 0 (Nat.le_refl _) (by simp [maxLen]) (by simp)
  have HO1 : Hid (w1.ownsRow w.heap.size 2 1 (.slice (some ⟨w.heap.size, 0, none⟩) 0 0) 0 (vals (shV V x m0) 0)) := own_below O0 h1
  clear O0 h1
  go_wp2_with fail
  refine (AL.out _ B1).mono ?_
  rintro r w2 ⟨rfl, h2⟩
  have B2 : Below w.heap.size w w2 := B1.trans (h2.mono B1.size)
  have HO2 : Hid (w2.ownsRow w.heap.size 2 1 (.slice (some ⟨w.heap.size, 0, none⟩) 0 0) 0 (vals (shV V x m0) 0)) := own_below HO1.out h2
  rw [hal]
  clear h2 HO1 B1
  have HB2 : Hid (Below w.heap.size w w2) := B2
  clear B2
  go_wp2_with fail
  go_loopw [5, 7, 8] (fun v q i wr => ∃ k : Nat, k ≤ n ∧ i = .int .i64 k ∧ q = .int .i64 (mV V x m0 k) ∧ MadeI w.heap.size w wr v k (shV V x m0)) (fun _ _ i _ => n - (intOf i).toNat)
  case atStart => exact ⟨0, Nat.zero_le _, rfl, by unfold mV; first | rfl | (congr 1; done) | (congr 1; omega), HO2.out, HB2.out⟩
  case round =>
    obtain ⟨k, hk, rfl, rfl, hM⟩ := hrel
    obtain ⟨mb1, mb2⟩ := m_bd (V := V) x0 x1 hm (k := k) fun j hj => HU.out j (by omega)
    have HM : Hid (MadeI w.heap.size w wr u5 k (shV V x m0)) := hM
    have hB := hM.2
    clear hM
    by_cases h1 : k < n
    · obtain ⟨g, o, rfl, hg, c0⟩ := HR.out (k * 2) (by omega)
      obtain ⟨g', o', e', hg', c1⟩ := HR.out (k * 2 + 1) (by omega)
      cases e'
      have d0 : wr.cell? ⟨g, o + k * 2, none⟩ = some (.int .i64 (V (k * 2))) := (hB.cell (p := ⟨g, o + k * 2, none⟩) hg).trans c0
      have d1 : wr.cell? ⟨g, o + k * 2 + 1, none⟩ = some (.int .i64 (V (k * 2 + 1))) := (hB.cell (p := ⟨g, o + (k * 2 + 1), none⟩) hg).trans c1
      have k1 : (k : Int) < (n : Int) := by omega
      have zg : g < wr.heap.size := Nat.lt_of_lt_of_le hg hB.size
      have zw : w.heap.size ≤ wr.heap.size := hB.size
      have HN : Hid (k < n) := h1
      have ub := gv_bd (HU.out k h1) x0 x1
      have uc := unit_yes (HU.out k h1)
      have pb := prv_bd (HU.out k h1) x0 x1
      have nb := n_bd (HU.out k h1) x0 x1 mb1
      have hz := n_zero (HU.out k h1) mb1
      obtain ⟨gv, hgv⟩ : ∃ gv, gvV V x k = gv := ⟨_, rfl⟩
      obtain ⟨m, hmm⟩ : ∃ m, mV V x m0 k = m := ⟨_, rfl⟩
      obtain ⟨d, hd⟩ : ∃ d, nV V x m k = d := ⟨_, rfl⟩
      obtain ⟨p, hp⟩ : ∃ p, prvV V x k = p := ⟨_, rfl⟩
      have HMN : Hid (mV V x m0 (k + 1) = m - d) := (show mV V x m0 k - nV V x (mV V x m0 k) k = m - d from by rw [hmm, hd])
      have HSN : Hid (gv - d = shV V x m0 k) := (show gv - d = gvV V x k - nV V x (mV V x m0 k) k from by rw [hmm, hd, hgv])
      rw [hmm, hd, hgv] at nb
      rw [hgv, hp] at pb
      rw [hgv] at ub
      rw [hmm] at mb1 mb2 hz ⊢
      have HD : Hid (min m (gv - p) = d) := by rw [← hd, ← hgv, ← hp]; rfl
      have HD0 : Hid (x = 0 → d = 0) := fun e => by rw [← hd, e]; exact hz
      have G1 : Hid (∀ w, Calls Try.prog 29 #[.agg #[.int .i64 (V (k * 2)), .int .i64 (V (k * 2 + 1))], .int .i64 x] w fun e w' => e = .returned (.int .i64 gv) ∧ Below w.heap.size w w') := fun w => hgv ▸ GV.out k x w h1 x0 x1
      have G2 : Hid (0 < x → ∀ w, Calls Try.prog 29 #[.agg #[.int .i64 (V (k * 2)), .int .i64 (V (k * 2 + 1))], .int .i64 (x - 1)] w fun e w' => e = .returned (.int .i64 p) ∧ Below w.heap.size w w') := fun q w => by
        have e : p = gvV V (x - 1) k := by rw [← hp]; unfold prvV; rw [if_pos q]
        rw [e]
        exact GV.out k (x - 1) w h1 (by omega) (by omega)
      obtain ⟨ub1, ub2⟩ := ub
      obtain ⟨uc1, uc2, uc3, uc4⟩ := uc
      obtain ⟨pb1, pb2⟩ := pb
      obtain ⟨nb1, nb2, nb3⟩ := nb
      have HBB : Hid (Below w.heap.size w wr) := hB
      clear hB c0 c1 hg hg' hgv hmm hd hp hz h1
      by_cases hx : 0 < x
      · have HG2 : Hid (∀ w, Calls Try.prog 29 #[.agg #[.int .i64 (V (k * 2)), .int .i64 (V (k * 2 + 1))], .int .i64 (x - 1)] w fun e w' => e = .returned (.int .i64 p) ∧ Below w.heap.size w w') := G2.out hx
        have ed : (if gv - p < m then gv - p else m) = d := by rw [← HD.out]; split <;> omega
        clear G2 HD0
        have hw1 : IntKind.i64.wrap (x - 1) = x - 1 := by rw [IntKind.wrap_i64]; omega
        have hw2 : IntKind.i64.wrap (gv - p) = gv - p := by rw [IntKind.wrap_i64]; omega
        go_wp2_with fail
        go_cut [9] (fun q wx => q = .int .i64 d ∧ Below wr.heap.size wr wx)
        case first =>
          clear HM HBB HR HU HV FF AL GV HMN HSN HD
          go_region_held3 (fun w' => w'.cell? ⟨g, o + k * 2, none⟩ = some (.int .i64 (V (k * 2))) ∧ w'.cell? ⟨g, o + k * 2 + 1, none⟩ = some (.int .i64 (V (k * 2 + 1)))) (first | (refine keepU d0 d1 zg ?_; exact (by repeat (first | with_reducible exact Below.refl _ _ | with_reducible exact B4 | with_reducible exact B3 | with_reducible refine Below.setCell ?_ (by first | omega | (simp; done) | (simp; omega)) _ | with_reducible refine bDrewN ?_ _ | with_reducible refine Below.drew ?_ | with_reducible refine Below.alloc ?_ (by first | omega | (simp; done) | (simp; omega)) _)))) (first
            | (go_at_call 29; (fail_if_success (have gg := B3)); refine (G1.out _).mono ?_; rintro r w3 ⟨rfl, h3⟩; have B3 : Below wr.heap.size wr w3 := Below.trans (by repeat (first | with_reducible exact Below.refl _ _ | with_reducible refine Below.setCell ?_ (by first | omega | (simp; done) | (simp; omega)) _ | with_reducible refine bDrewN ?_ _ | with_reducible refine Below.drew ?_ | with_reducible refine Below.alloc ?_ (by first | omega | (simp; done) | (simp; omega)) _)) (h3.mono (by first | omega | (simp; done) | (simp; omega))); have s3 := B3.size)
            | (go_at_call 29; refine (HG2.out _).mono ?_; rintro r w4 ⟨rfl, h4⟩; have B4 : Below wr.heap.size wr w4 := Below.trans (by repeat (first | with_reducible exact Below.refl _ _ | with_reducible exact B3 | with_reducible refine Below.setCell ?_ (by first | omega | (simp; done) | (simp; omega)) _ | with_reducible refine bDrewN ?_ _ | with_reducible refine Below.drew ?_ | with_reducible refine Below.alloc ?_ (by first | omega | (simp; done) | (simp; omega)) _)) (h4.mono (by first | omega | (simp; done) | (simp; omega))); have s4 := B4.size))
          all_goals
            go_wp2_with fail
            go_meet
            case rel => exact ⟨by first | rfl | (simp; done) | (simp [ed]; done), (by repeat (first | with_reducible exact Below.refl _ _ | with_reducible exact B4 | with_reducible refine Below.setCell ?_ (by first | omega | (simp; done) | (simp; omega)) _ | with_reducible refine bDrewN ?_ _ | with_reducible refine Below.drew ?_ | with_reducible refine Below.alloc ?_ (by first | omega | (simp; done) | (simp; omega)) _))⟩
        case rest =>
        obtain ⟨rfl, hB⟩ := hcut
        rename World => wa
        have f0 : wa.cell? ⟨g, o + k * 2, none⟩ = some (.int .i64 (V (k * 2))) := (hB.cell (p := ⟨g, o + k * 2, none⟩) zg).trans d0
        have f1 : wa.cell? ⟨g, o + k * 2 + 1, none⟩ = some (.int .i64 (V (k * 2 + 1))) := (hB.cell (p := ⟨g, o + k * 2 + 1, none⟩) zg).trans d1
        have yg : g < wa.heap.size := Nat.lt_of_lt_of_le zg hB.size
        have HMA : Hid (wa.ownsRow w.heap.size 2 1 u5 k (vals (shV V x m0) k)) := own_below HM.out.1 hB
        have HBA : Hid (Below w.heap.size w wa) := HBB.out.trans (hB.mono zw)
        clear hB d0 d1 zg
        go_wp2_with fail
        refine (G1.out _).mono ?_
        rintro r w5 ⟨rfl, h5⟩
        have HOW : Hid (w5.ownsRow w.heap.size 2 1 u5 k (vals (shV V x m0) k)) := own_below HMA.out h5
        have B5 : Below w.heap.size w w5 := HBA.out.trans (h5.mono HBA.out.size)
        have HZ : Hid (w.heap.size ≤ w5.heap.size) := B5.size
        have HB5 : Hid (Below w.heap.size w w5) := B5
        clear h5 B5 f0 f1 yg
        go_wp2_with (at_builtin; refine list_i64 w.heap.size u5 k (vals (shV V x m0) k) (.tmp 49) (.tmp 58) (by rfl) (by rfl) (by rfl) (by rfl) (by exact HOW.out) (by omega) (by exact HZ.out) ?_; intro g' cap' w6 hown6 hgrow6 hlt6)
        go_roundw
        case rel =>
          refine ⟨k + 1, by have := HN.out; omega, by go_num, ?_, ?_, HB5.out.trans (grown_below hgrow6 HZ.out (own_block HOW.out))⟩
          · rw [HMN.out]
          · rw [vals_succ, ← HSN.out]; exact hown6
        case measure => have := HN.out; simp [intOf]; omega
      · have ed := HD0.out (by omega)
        subst ed
        have hB : Below wr.heap.size wr wr := Below.refl _ _
        have f0 : wr.cell? ⟨g, o + k * 2, none⟩ = some (.int .i64 (V (k * 2))) := (hB.cell (p := ⟨g, o + k * 2, none⟩) zg).trans d0
        have f1 : wr.cell? ⟨g, o + k * 2 + 1, none⟩ = some (.int .i64 (V (k * 2 + 1))) := (hB.cell (p := ⟨g, o + k * 2 + 1, none⟩) zg).trans d1
        have yg : g < wr.heap.size := Nat.lt_of_lt_of_le zg hB.size
        have HMA : Hid (wr.ownsRow w.heap.size 2 1 u5 k (vals (shV V x m0) k)) := own_below HM.out.1 hB
        have HBA : Hid (Below w.heap.size w wr) := HBB.out.trans (hB.mono zw)
        clear hB d0 d1 zg
        go_wp2_with fail
        refine (G1.out _).mono ?_
        rintro r w5 ⟨rfl, h5⟩
        have HOW : Hid (w5.ownsRow w.heap.size 2 1 u5 k (vals (shV V x m0) k)) := own_below HMA.out h5
        have B5 : Below w.heap.size w w5 := HBA.out.trans (h5.mono HBA.out.size)
        have HZ : Hid (w.heap.size ≤ w5.heap.size) := B5.size
        have HB5 : Hid (Below w.heap.size w w5) := B5
        clear h5 B5 f0 f1 yg
        go_wp2_with (at_builtin; refine list_i64 w.heap.size u5 k (vals (shV V x m0) k) (.tmp 49) (.tmp 58) (by rfl) (by rfl) (by rfl) (by rfl) (by exact HOW.out) (by omega) (by exact HZ.out) ?_; intro g' cap' w6 hown6 hgrow6 hlt6)
        go_roundw
        case rel =>
          refine ⟨k + 1, by have := HN.out; omega, by go_num, ?_, ?_, HB5.out.trans (grown_below hgrow6 HZ.out (own_block HOW.out))⟩
          · rw [HMN.out, Int.sub_zero]
          · rw [vals_succ, ← HSN.out, Int.sub_zero]; exact hown6
        case measure => have := HN.out; simp [intOf]; omega
    · obtain rfl : k = n := by omega
      obtain ⟨s', cap, rfl, ho⟩ := made_own HM.out
      have HW : Hid (OwnI w.heap.size wr s' k (shV V x m0)) := ho
      clear ho
      go_wp2
      go_ret
      exact ⟨k, _, _, _, HV.out, rfl, HW.out, hB⟩
theorem specShare_any (s : Option Addr) (n c : Nat) (V : Nat → Int) (load : Int) (w : World) (hn : (n : Int) ≤ 1048576) (HR : RowI w s (n * 2) V) :
    Calls Try.prog 11 #[.slice s n c, .int .i64 load] w fun e w' => ∃ m U s' c', SV n V load m U ∧ e = .returned (.slice s' m c') ∧ OwnI w.heap.size w' s' m U ∧ Below w.heap.size w w' := by
  obtain ⟨x, hx⟩ := fv_some n V load
  have FF : ∀ w', Below w.heap.size w w' → Calls Try.prog 7 #[.slice s n c, .int .i64 load] w' fun e w'' => e = .returned (.int .i64 x) ∧ Below w'.heap.size w' w'' := fun w' hb => (specFall_any s n c V load w' hn (HR.below hb)).mono fun e w'' ⟨y, k1, k2, k3⟩ => ⟨by rw [k2, k1.one hx], k3⟩
  have hx' := hx
  rcases hx with ⟨h1, rfl⟩ | ⟨h1, h2⟩
  · exact specShare_no s n c V load w hx' FF
  · have UA := units_at h1.2.1
    have ax : load ≤ allV V x n := (h2.2.2 x h2.1 h2.2.1).2 (Int.le_refl _)
    have ab := all_bd (V := V) h2.1 h2.2.1 UA
    have n50 := h1.1
    have l0 := h1.2.2.1
    exact specShare_on s n c V load w x (allV V x n - load) h2.1 h2.2.1 (by omega) l0 h1.2.2.2.1 (by omega) (by omega) (by omega) HR UA ⟨x, hx', .inr ⟨h2.1, rfl⟩, rfl⟩ FF (fun w' hb => l10All_any s n c V x w' (by omega) h2.1 h2.2.1 UA (HR.below hb)) (fun j f w hj f0 f1 => gives_l10All V j f w (UA j hj) f0 f1)
end Go.Proofs.Ytgekkblfnfclmaa
