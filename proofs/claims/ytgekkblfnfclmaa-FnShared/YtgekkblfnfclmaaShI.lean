/-
What is proved: what each of the units gives, as the program tells it.
-/
import Derived.Test.YtgekkblfnfclmaaFfI
import Derived.Test.YtgekkblfnfclmaaSh
import Derived.Deep.RegionHeld3
import Derived.Deep.DeepCutAuto
namespace Go.Proofs.Ytgekkblfnfclmaa
set_option maxRecDepth 40000
open Go.RowKit
set_option linter.unusedVariables false
set_option linter.unusedSimpArgs false

set_option maxHeartbeats 1000000 in
theorem implShare_no (s : Option Addr) (n c : Nat) (V : Nat → Int) (load : Int) (w : World) (HV : Hid (FV n V load (-1))) (FF : Hid (∀ w', Below w.heap.size w w' → Calls Try.prog 9 #[.slice s n c, .int .i64 load] w' fun e w'' => e = .returned (.int .i64 (-1)) ∧ Below w'.heap.size w' w'')) :
    Calls Try.prog 12 #[.slice s n c, .int .i64 load] w fun e w' => ∃ m U s' c', SV n V load m U ∧ e = .returned (.slice s' m c') ∧ OwnI w.heap.size w' s' m U ∧ Below w.heap.size w w' := by
  go_enter Try.func12, Try.ntmps12
  go_wp2_with fail
  refine (FF.out _ (by repeat (first | with_reducible exact Below.refl _ _ | with_reducible refine Below.setCell ?_ (by first | omega | (simp; done) | (simp; omega)) _ | with_reducible refine bDrewN ?_ _ | with_reducible refine Below.drew ?_ | with_reducible refine Below.alloc ?_ (by first | omega | (simp; done) | (simp; omega)) _))).mono ?_
  rintro r w1 ⟨rfl, h1⟩
  have B1 : Below w.heap.size w w1 := Below.trans (by repeat (first | with_reducible exact Below.refl _ _ | with_reducible refine Below.setCell ?_ (by first | omega | (simp; done) | (simp; omega)) _ | with_reducible refine bDrewN ?_ _ | with_reducible refine Below.drew ?_ | with_reducible refine Below.alloc ?_ (by first | omega | (simp; done) | (simp; omega)) _)) (h1.mono (by first | omega | (simp; done) | (simp; omega)))
  go_wp2
  go_ret
  exact ⟨0, _, _, _, ⟨-1, HV.out, .inl ⟨rfl, rfl⟩, rfl⟩, rfl, fun j hj => by omega, B1⟩
set_option maxRecDepth 20000 in
set_option maxHeartbeats 4000000 in
theorem implShare_on (s : Option Addr) (n c : Nat) (V : Nat → Int) (load : Int) (w : World) (x m0 : Int) (x0 : 0 ≤ x) (x1 : x ≤ 1000000) (hn : (n : Int) ≤ 50) (l0 : 0 ≤ load) (l1 : load ≤ 50000000) (hm : 0 ≤ m0) (hm' : m0 ≤ 50000000) (hal : allV V x n = m0 + load) (HR : Hid (RowI w s (n * 2) V)) (HU : Hid (∀ j, j < n → unitB V j = true)) (HV : Hid (SV n V load n (shV V x m0))) (FF : Hid (∀ w', Below w.heap.size w w' → Calls Try.prog 9 #[.slice s n c, .int .i64 load] w' fun e w'' => e = .returned (.int .i64 x) ∧ Below w'.heap.size w' w''))
    (AL : Hid (∀ w', Below w.heap.size w w' → Calls Try.prog 25 #[.slice s n c, .int .i64 x] w' fun e w'' => e = .returned (.int .i64 (allV V x n)) ∧ Below w'.heap.size w' w''))
    (GV : Hid (∀ j w, j < n → Calls Try.prog 30 #[.agg #[.int .i64 (V (j * 2)), .int .i64 (V (j * 2 + 1))], .int .i64 x] w fun e w' => e = .returned (.int .i64 (gvV V x j)) ∧ Below w.heap.size w w'))
    (GP : Hid (∀ j w, j < n → Calls Try.prog 30 #[.agg #[.int .i64 (V (j * 2)), .int .i64 (V (j * 2 + 1))], .int .i64 (x - 1)] w fun e w' => e = .returned (.int .i64 (prvV V x j)) ∧ Below w.heap.size w w')) :
    Calls Try.prog 12 #[.slice s n c, .int .i64 load] w fun e w' => ∃ m U s' c', SV n V load m U ∧ e = .returned (.slice s' m c') ∧ OwnI w.heap.size w' s' m U ∧ Below w.heap.size w w' := by
  have hmk := make_i64 n (by omega)
  have xne : (x == -1) = false := by simp; omega
  go_enter Try.func12, Try.ntmps12
  go_wp2_with fail
  refine (FF.out _ (by repeat (first | with_reducible exact Below.refl _ _ | with_reducible refine Below.setCell ?_ (by first | omega | (simp; done) | (simp; omega)) _ | with_reducible refine bDrewN ?_ _ | with_reducible refine Below.drew ?_ | with_reducible refine Below.alloc ?_ (by first | omega | (simp; done) | (simp; omega)) _))).mono ?_
  rintro r w1 ⟨rfl, h1⟩
  have B1 : Below w.heap.size w w1 := Below.trans (by repeat (first | with_reducible exact Below.refl _ _ | with_reducible refine Below.setCell ?_ (by first | omega | (simp; done) | (simp; omega)) _ | with_reducible refine bDrewN ?_ _ | with_reducible refine Below.drew ?_ | with_reducible refine Below.alloc ?_ (by first | omega | (simp; done) | (simp; omega)) _)) (h1.mono (by first | omega | (simp; done) | (simp; omega)))
  go_wp2_with fail
  refine (AL.out _ B1).mono ?_
  rintro r w2 ⟨rfl, h2⟩
  have B2 : Below w.heap.size w w2 := B1.trans (h2.mono B1.size)
  rw [hal]
  have HB2 : Hid (Below w.heap.size w w2) := B2
  have HZ2 : Hid (w.heap.size ≤ w2.heap.size) := B2.size
  clear h1 h2 B1 B2
  go_wp2_with fail
  go_loopw [6, 26] (fun q i wr => ∃ k : Nat, k ≤ n ∧ i = .int .i64 k ∧ q = .int .i64 (mV V x m0 k) ∧ RowTo w2 wr n k (shV V x m0)) (fun _ i _ => n - (intOf i).toNat)
  case atStart => exact ⟨0, Nat.zero_le _, rfl, by unfold mV; first | rfl | (congr 1; done) | (congr 1; omega), rowTo_start w2 n (shV V x m0) 2⟩
  case round =>
    obtain ⟨k, hk, rfl, rfl, hR⟩ := hrel
    obtain ⟨mb1, mb2⟩ := m_bd (V := V) x0 x1 hm (k := k) fun j hj => HU.out j (by omega)
    have HT : Hid (RowTo w2 wr n k (shV V x m0)) := hR
    obtain ⟨hB, hz, hf, hc⟩ := hR
    have hBw : Below w.heap.size w wr := HB2.out.trans (hB.mono HZ2.out)
    by_cases h1 : k < n
    · obtain ⟨g, o, rfl, hg, c0⟩ := HR.out (k * 2) (by omega)
      obtain ⟨g', o', e', hg', c1⟩ := HR.out (k * 2 + 1) (by omega)
      cases e'
      have d0 : wr.cell? ⟨g, o + k * 2, none⟩ = some (.int .i64 (V (k * 2))) := (hBw.cell (p := ⟨g, o + k * 2, none⟩) hg).trans c0
      have d1 : wr.cell? ⟨g, o + k * 2 + 1, none⟩ = some (.int .i64 (V (k * 2 + 1))) := (hBw.cell (p := ⟨g, o + (k * 2 + 1), none⟩) hg).trans c1
      have e0 := hc k h1
      have k1 : (k : Int) < (n : Int) := by omega
      have zg : g < wr.heap.size := Nat.lt_of_lt_of_le hg hBw.size
      have HN : Hid (k < n) := h1
      have ub := gv_bd (HU.out k h1) x0 x1
      have uc := unit_yes (HU.out k h1)
      have pb := prv_bd (HU.out k h1) x0 x1
      have nb := n_bd (HU.out k h1) x0 x1 mb1
      obtain ⟨gv, hgv⟩ : ∃ gv, gvV V x k = gv := ⟨_, rfl⟩
      obtain ⟨m, hmm⟩ : ∃ m, mV V x m0 k = m := ⟨_, rfl⟩
      obtain ⟨d, hd⟩ : ∃ d, nV V x m k = d := ⟨_, rfl⟩
      obtain ⟨p, hp⟩ : ∃ p, prvV V x k = p := ⟨_, rfl⟩
      have HMN : Hid (mV V x m0 (k + 1) = m - d) := (show mV V x m0 k - nV V x (mV V x m0 k) k = m - d from by rw [hmm, hd])
      have HSN : Hid (gv - d = shV V x m0 k) := (show gv - d = gvV V x k - nV V x (mV V x m0 k) k from by rw [hmm, hd, hgv])
      rw [hmm, hd, hgv] at nb
      rw [hgv, hp] at pb
      rw [hgv] at ub
      rw [hmm] at mb1 mb2 ⊢
      have HD : Hid (min m (gv - p) = d) := by rw [← hd, ← hgv, ← hp]; rfl
      have G1 : Hid (∀ w, Calls Try.prog 30 #[.agg #[.int .i64 (V (k * 2)), .int .i64 (V (k * 2 + 1))], .int .i64 x] w fun e w' => e = .returned (.int .i64 gv) ∧ Below w.heap.size w w') := fun w => hgv ▸ GV.out k w h1
      have G2 : Hid (∀ w, Calls Try.prog 30 #[.agg #[.int .i64 (V (k * 2)), .int .i64 (V (k * 2 + 1))], .int .i64 (x - 1)] w fun e w' => e = .returned (.int .i64 p) ∧ Below w.heap.size w w') := fun w => hp ▸ GP.out k w h1
      obtain ⟨ub1, ub2⟩ := ub
      obtain ⟨uc1, uc2, uc3, uc4⟩ := uc
      obtain ⟨pb1, pb2⟩ := pb
      obtain ⟨nb1, nb2, nb3⟩ := nb
      have ed : (if gv - p < m then gv - p else m) = d := by rw [← HD.out]; split <;> omega
      clear hB hBw hc c0 c1 hg hg' hgv hmm hd hp h1 HD
      go_wp2_with fail
      refine (G1.out _).mono ?_
      rintro r w3 ⟨rfl, h3⟩
      have f0 : w3.cell? ⟨g, o + k * 2, none⟩ = some (.int .i64 (V (k * 2))) := (h3.cell (p := ⟨g, o + k * 2, none⟩) zg).trans d0
      have f1 : w3.cell? ⟨g, o + k * 2 + 1, none⟩ = some (.int .i64 (V (k * 2 + 1))) := (h3.cell (p := ⟨g, o + k * 2 + 1, none⟩) zg).trans d1
      have yg : g < w3.heap.size := Nat.lt_of_lt_of_le zg h3.size
      go_wp2_with fail
      refine (G2.out _).mono ?_
      rintro r w4 ⟨rfl, h4⟩
      have h34 : Below wr.heap.size wr w4 := h3.trans (h4.mono h3.size)
      have e4 : w4.cell? ⟨w2.heap.size, k, none⟩ = _ := (h34.cell (p := ⟨w2.heap.size, k, none⟩) hz).trans e0
      have f4 : w4.frozen? ⟨w2.heap.size, k, none⟩ = false := (h34.frozen (p := ⟨w2.heap.size, k, none⟩) hz).trans (hf k)
      have z4 : w2.heap.size < w4.heap.size := Nat.lt_of_lt_of_le hz h34.size
      have H34 : Hid (Below wr.heap.size wr w4) := h34
      clear h3 h4 h34 f0 f1 yg d0 d1 e0 hf
      go_wp2
      go_roundw
      case rel => exact ⟨k + 1, by have := HN.out; omega, by go_num, by rw [HMN.out], by rw [HSN.out]; exact rowTo_on HT.out H34.out⟩
      case measure => have := HN.out; simp [intOf]; omega
    · obtain rfl : k = n := by omega
      have HO : Hid (OwnI w.heap.size wr (some ⟨w2.heap.size, 0, none⟩) k (shV V x m0)) := (rowTo_own HT.out).mono HZ2.out
      go_wp2
      go_ret
      exact ⟨k, _, _, _, HV.out, rfl, HO.out, hBw⟩
theorem implShare_any (s : Option Addr) (n c : Nat) (V : Nat → Int) (load : Int) (w : World) (hn : (n : Int) ≤ 1048576) (HR : RowI w s (n * 2) V) :
    Calls Try.prog 12 #[.slice s n c, .int .i64 load] w fun e w' => ∃ m U s' c', SV n V load m U ∧ e = .returned (.slice s' m c') ∧ OwnI w.heap.size w' s' m U ∧ Below w.heap.size w w' := by
  obtain ⟨x, hx⟩ := fv_some n V load
  have FF : ∀ w', Below w.heap.size w w' → Calls Try.prog 9 #[.slice s n c, .int .i64 load] w' fun e w'' => e = .returned (.int .i64 x) ∧ Below w'.heap.size w' w'' := fun w' hb => (implFall_any s n c V load w' hn (HR.below hb)).mono fun e w'' ⟨y, k1, k2, k3⟩ => ⟨by rw [k2, k1.one hx], k3⟩
  have hx' := hx
  rcases hx with ⟨h1, rfl⟩ | ⟨h1, h2⟩
  · exact implShare_no s n c V load w hx' FF
  · have UA := units_at h1.2.1
    have ax : load ≤ allV V x n := (h2.2.2 x h2.1 h2.2.1).2 (Int.le_refl _)
    have ab := all_bd (V := V) h2.1 h2.2.1 UA
    have n50 := h1.1
    have l0 := h1.2.2.1
    exact implShare_on s n c V load w x (allV V x n - load) h2.1 h2.2.1 (by omega) l0 h1.2.2.2.1 (by omega) (by omega) (by omega) HR UA ⟨x, hx', .inr ⟨h2.1, rfl⟩, rfl⟩ FF (fun w' hb => givenAt_any s n c V x w' (by omega) h2.1 h2.2.1 UA (HR.below hb)) (fun j w hj => gives_givenAt V j x w (UA j hj) h2.1 h2.2.1) (fun j w hj => by
      by_cases q : 0 < x
      · have e : prvV V x j = gvV V (x - 1) j := by unfold prvV; rw [if_pos q]
        rw [e]
        exact gives_givenAt V j (x - 1) w (UA j hj) (by omega) (by have := h2.2.1; omega)
      · have e0 : x = 0 := by have := h2.1; omega
        obtain ⟨a, b, cc, d⟩ := unit_yes (UA j hj)
        subst e0
        refine gives_any _ _ _ _ _ (by omega) (by omega) ?_
        unfold prvV
        rw [if_neg (by omega)]
        omega)
end Go.Proofs.Ytgekkblfnfclmaa
