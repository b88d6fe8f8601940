/-
What is proved: FnSurging: of a map, speeds and flows that are drawn from any code, at the place that is told the flow is below where it surges and has a margin below 0 where it has one, and at none ahead of it the flow is below where it surges; no condition.
-/
import Derived.Test.YtbabedfbadlhjaaSgD
import Derived.Test.YtbabedfbadlhjaaSgO
import Derived.Test.YtbabedfbadlhjaaMapS
import Derived.Test.YtbabedfbadlhjaaMapM
import Derived.Test.YtbabedfbadlhjaaMapK
import Derived.Test.YtbabedfbadlhjaaOpen8
import Derived.Deep.RegionHeld3
import Derived.Deep.DeepCutAuto
import Derived.Deep.RegionHeldLaw
namespace Go.Proofs.Ytbabedfbadlhjaa
set_option maxRecDepth 40000
open Go.ChangeShapes Go.WideShapes Go.ChangeAt Go.RowKit
set_option linter.unusedVariables false
set_option linter.unusedSimpArgs false

theorem specSurges_any (s : Option Addr) (n c : Nat) (S : Nat → Int) (K : Nat → Nat) (V : Nat → Nat → Int) (s1 : Option Addr) (n1 c1 : Nat) (P : Nat → Int) (s2 : Option Addr) (n2 c2 : Nat) (F : Nat → Int) (G : Int → Option Nat) (hG : ∀ x, MapV n S K V x (surgeF V) (G x)) (w : World) (HR : MapR w s n S K V) (H1 : RowI w s1 n1 P) (H2 : RowI w s2 n2 F) :
    Calls Try.prog 16 #[.slice s n c, .slice s1 n1 c1, .slice s2 n2 c2] w fun e w' => e = .returned (.int .i64 (surgesI G P F n1 n2)) ∧ Below w.heap.size w w' := by
  by_cases q : n1 = n2 ∧ n1 ≤ 400
  · have e1 : surgesI G P F n1 n2 = firstI (surgeP G P F) 0 n1 := by unfold surgesI; rw [if_pos q]
    rw [e1]
    obtain ⟨rfl, q2⟩ := q
    exact specSurges_go s n c S K V s1 n1 c1 P s2 c2 F G w (by omega) HR H1 H2 (fun x w h => (specSurgeAt_any s n c S K V x w h).mono fun e w' ⟨⟨r, o, h0, h1, h2⟩, m, h3⟩ => ⟨r, h1, by rw [(hG x).one h0]; exact h2, by rw [h3]; exact bDrewN (Below.refl _ _) _⟩)
  · have e1 : surgesI G P F n1 n2 = -1 := by unfold surgesI; rw [if_neg q]
    rw [e1]
    exact specSurges_no s n c s1 n1 c1 s2 n2 c2 w (by omega)
theorem implSurges_any (s : Option Addr) (n c : Nat) (S : Nat → Int) (K : Nat → Nat) (V : Nat → Nat → Int) (s1 : Option Addr) (n1 c1 : Nat) (P : Nat → Int) (s2 : Option Addr) (n2 c2 : Nat) (F : Nat → Int) (G : Int → Option Nat) (hG : ∀ x, MapV n S K V x (surgeF V) (G x)) (w : World) (HR : MapR w s n S K V) (H1 : RowI w s1 n1 P) (H2 : RowI w s2 n2 F) :
    Calls Try.prog 17 #[.slice s n c, .slice s1 n1 c1, .slice s2 n2 c2] w fun e w' => e = .returned (.int .i64 (surgesI G P F n1 n2)) ∧ Below w.heap.size w w' := by
  by_cases q : n1 = n2 ∧ n1 ≤ 400
  · have e1 : surgesI G P F n1 n2 = firstI (surgeP G P F) 0 n1 := by unfold surgesI; rw [if_pos q]
    rw [e1]
    obtain ⟨rfl, q2⟩ := q
    exact implSurges_go s n c S K V s1 n1 c1 P s2 c2 F G w (by omega) HR H1 H2 (fun x w h => (implSurgeAt_any s n c S K V x w h).mono fun e w' ⟨r, o, h0, h1, h2, h3⟩ => ⟨r, h1, by rw [(hG x).one h0]; exact h2, h3⟩)
  · have e1 : surgesI G P F n1 n2 = -1 := by unfold surgesI; rw [if_neg q]
    rw [e1]
    exact implSurges_no s n c s1 n1 c1 s2 n2 c2 w (by omega)
set_option maxHeartbeats 400000 in
theorem surging_far (w : World) (s : Option Addr) (n c : Nat) (h : (1048576 : Int) < n) :
    Calls Try.prog 4 #[.slice s n c] w fun e w' => e = .returned (.bool true) ∧ Below w.heap.size w w' := by
  go_enter Try.func4, Try.ntmps4
  go_wp2_with fail
  refine (big_yes _ _ _ _ h).mono ?_
  rintro e w1 ⟨rfl, rfl⟩
  go_wp2
  go_ret
  exact ⟨rfl, Below.refl _ _⟩
theorem op_ex {f : BinOp} (ff : isF f = true) {a b : Option Nat} (h : ∃ x, Fl x a) (g : ∃ y, Fl y b) : ∃ r, Fl r (opO f a b) := by
  obtain ⟨x, hx⟩ := h
  obtain ⟨y, hy⟩ := g
  obtain ⟨r, n, h1, h2⟩ := fl_run (P := Try.prog) ff 30 hx hy default
  exact ⟨r, h2⟩
theorem none_ex : ∃ r, Fl r none := ⟨INF + 1, by decide, .inr ⟨by decide, rfl⟩⟩
theorem map_ex {n : Nat} {S : Nat → Int} {K : Nat → Nat} {V : Nat → Nat → Int} {x : Int} {o : Option Nat} (h : MapV n S K V x (surgeF V) o) : ∃ r, Fl r o := by
  rcases h with ⟨_, rfl⟩ | ⟨_, ⟨a, _, _, rfl⟩ | ⟨a, _, _, _, rfl⟩ | ⟨_, _, rfl⟩⟩
  · exact none_ex
  · exact ⟨_, itf_fl _⟩
  · exact op_ex rfl ⟨_, itf_fl _⟩ (op_ex rfl (op_ex rfl ⟨_, itf_fl _⟩ ⟨_, itf_fl _⟩) (op_ex rfl ⟨_, itf_fl _⟩ ⟨_, itf_fl _⟩))
  · exact none_ex
theorem firstI_spec (p : Nat → Bool) : ∀ (m k : Nat), firstI p k m = -1 ∨ ∃ j, k ≤ j ∧ j < k + m ∧ firstI p k m = (j : Int) ∧ p j = true ∧ ∀ i, k ≤ i → i < j → p i = false
  | 0, k => .inl rfl
  | m + 1, k => by
    unfold firstI
    cases h : p k
    · rw [if_neg (by simp)]
      rcases firstI_spec p m (k + 1) with e | ⟨j, j0, j1, e, e1, e2⟩
      · exact .inl e
      · refine .inr ⟨j, by omega, by omega, e, e1, fun i i0 i1 => ?_⟩
        by_cases q : i = k
        · rw [q]; exact h
        · exact e2 i (by omega) i1
    · rw [if_pos rfl]
      exact .inr ⟨k, by omega, by omega, rfl, h, fun i i0 i1 => by omega⟩
theorem surgesI_spec {G : Int → Option Nat} {P F : Nat → Int} {n m : Nat} {a : Int} (h : surgesI G P F n m = a) : a < 0 ∨ ∃ q : Nat, a = (q : Int) ∧ n = m ∧ q < n ∧ surgeP G P F q = true ∧ ∀ i, i < q → surgeP G P F i = false := by
  unfold surgesI at h
  by_cases q : n = m ∧ n ≤ 400
  · rw [if_pos q] at h
    rcases firstI_spec (surgeP G P F) n 0 with e | ⟨j, j0, j1, e, e1, e2⟩
    · left; omega
    · exact .inr ⟨j, by omega, q.1, by omega, e1, fun i hi => e2 i (by omega) hi⟩
  · rw [if_neg q] at h
    left; omega
theorem surging_self {x : Nat} {o : Option Nat} (h : Fl x o) : (o = none → FloatKind.f64.format.order x x = none) ∧ (∀ g, o = some g → x = g ∧ FloatKind.f64.format.order x x = some .eq) := by
  refine ⟨fun e => by rw [fl_order h h, e]; rfl, fun g e => ?_⟩
  subst e
  rcases h.2 with ⟨hI, e⟩ | ⟨_, e⟩
  · cases e
    refine ⟨rfl, ?_⟩
    rw [order_key hI hI]
    have : compare (key x) (key x) = .eq := by simp
    rw [this]
  · cases e
set_option maxRecDepth 20000 in
set_option maxHeartbeats 8000000 in
theorem surging_near (w : World) (s : Option Addr) (n c : Nat) (hn : (n : Int) ≤ 1048576) (HC : Hid (Code8 w s n)) :
    Calls Try.prog 4 #[.slice s n c] w fun e w' => e = .returned (.bool true) ∧ Below w.heap.size w w' := by
  go_enter Try.func4, Try.ntmps4
  go_wp2_with fail
  refine (big_no _ _ _ _ hn).mono ?_
  rintro e w1 ⟨rfl, rfl⟩
  rename World => w
  go_wp2_with fail
  refine (drawSurges_any HC).mono ?_
  rintro e w2 h2
  unfold DsuPost at h2
  obtain ⟨t, m, cap, S, K, V, t1, n1, c1, P, t2, n2, c2, F, rfl, R2, A1, A2, hF, n21, n12, B2⟩ := h2
  have HM : Hid (MapR w2 t m S K V) := R2
  have H1 : Hid (RowI w2 t1 n1 P) := A1
  have H2 : Hid (RowI w2 t2 n2 F) := A2
  have HF : Hid (∀ j, j < n2 → (F j).natAbs ≤ 9223372036854775808) := hF
  have HB : Hid (Below w.heap.size w w2) := B2
  clear R2 A1 A2 hF B2 HC
  obtain ⟨G, hG⟩ : ∃ G : Int → Option Nat, ∀ x, MapV m S K V x (surgeF V) (G x) := ⟨fun x => Classical.choose (MapV.some m S K V x (surgeF V)), fun x => Classical.choose_spec (MapV.some m S K V x (surgeF V))⟩
  obtain ⟨a, ha⟩ : ∃ z, surgesI G P F n1 n2 = z := ⟨_, rfl⟩
  have HS1 : Hid (∀ W, MapR W t m S K V → RowI W t1 n1 P → RowI W t2 n2 F → Calls Try.prog 16 #[.slice t m cap, .slice t1 n1 c1, .slice t2 n2 c2] W fun e w' => e = .returned (.int .i64 a) ∧ Below W.heap.size W w') := fun W h1 h2 h3 => by rw [← ha]; exact specSurges_any t m cap S K V t1 n1 c1 P t2 n2 c2 F G hG W h1 h2 h3
  have HS2 : Hid (∀ W, MapR W t m S K V → RowI W t1 n1 P → RowI W t2 n2 F → Calls Try.prog 17 #[.slice t m cap, .slice t1 n1 c1, .slice t2 n2 c2] W fun e w' => e = .returned (.int .i64 a) ∧ Below W.heap.size W w') := fun W h1 h2 h3 => by rw [← ha]; exact implSurges_any t m cap S K V t1 n1 c1 P t2 n2 c2 F G hG W h1 h2 h3
  have HT : Hid (∀ x W, MapR W t m S K V → Calls Try.prog 14 #[.slice t m cap, .int .i64 x] W fun e w' => ∃ r, e = .returned (.float .f64 r) ∧ Fl r (G x) ∧ Below W.heap.size W w') := fun x W h => (implSurgeAt_any t m cap S K V x W h).mono fun e w' ⟨r, o, h0, h1, h2, h3⟩ => ⟨r, h1, by rw [(hG x).one h0]; exact h2, h3⟩
  have HMG : Hid (∀ x y W, MapR W t m S K V → Calls Try.prog 18 #[.slice t m cap, .int .i64 x, .int .i64 y] W fun e w' => ∃ r, e = .returned (.float .f64 r) ∧ Fl r (marginO (G x) y) ∧ Below W.heap.size W w') := fun x y W h => implMargin_any t m cap x y (G x) W (HT.out x W h)
  have hA := surgesI_spec ha
  have HAA : Hid (a < 0 ∨ ∃ q : Nat, a = (q : Int) ∧ n1 = n2 ∧ q < n1 ∧ surgeP G P F q = true ∧ ∀ i, i < q → surgeP G P F i = false) := hA
  have cv : ∀ k w, (convert 2 30 (.int .i64 k)).run Try.prog w = .ok (.float .f64 (itf k)) w := fun k w => conv_run k w
  have HFX : Hid (∀ x, ∃ r, Fl r (G x)) := fun x => map_ex (hG x)
  clear ha hA hG
  go_wp2_with fail
  refine (HS1.out w2 HM.out H1.out H2.out).mono ?_
  rintro e w3 ⟨rfl, b3⟩
  replace HM : Hid (MapR w3 t m S K V) := HM.out.below b3
  replace H1 : Hid (RowI w3 t1 n1 P) := H1.out.below b3
  replace H2 : Hid (RowI w3 t2 n2 F) := H2.out.below b3
  replace HB : Hid (Below w.heap.size w w3) := HB.out.trans (b3.mono HB.out.size)
  clear b3 HS1
  go_wp2_with fail
  refine (HS2.out w3 HM.out H1.out H2.out).mono ?_
  rintro e w4 ⟨rfl, b4⟩
  replace HM : Hid (MapR w4 t m S K V) := HM.out.below b4
  replace H1 : Hid (RowI w4 t1 n1 P) := H1.out.below b4
  replace H2 : Hid (RowI w4 t2 n2 F) := H2.out.below b4
  replace HB : Hid (Below w.heap.size w w4) := HB.out.trans (b4.mono HB.out.size)
  clear b4 HS2
  rcases HAA.out with neg | ⟨q, rfl, rfl, qn, pq, pn⟩
  case inl =>
    have BF := HB.out
    clear HAA
    go_wp2
    go_ret
    exact ⟨rfl, BF⟩
  have HPQ : Hid (surgeP G P F q = true) := pq
  have HPN : Hid (∀ i, i < q → surgeP G P F i = false) := pn
  have q0 : ¬ (q : Int) < 0 := by omega
  have q20 : (q : Int) ≤ 20 := by omega
  have qn1 : (q : Int) < (n1 : Int) := by omega
  clear pq pn HAA n12
  go_wp2_with fail
  go_loopw [8] (fun i wx => ∃ k : Nat, k ≤ q ∧ i = .int .i64 k ∧ Hid (Below w4.heap.size w4 wx)) (fun i _ => q - (intOf i).toNat)
  case atStart => exact ⟨0, by omega, rfl, Below.refl _ _⟩
  case round =>
    obtain ⟨k, hk, rfl, HX⟩ := hrel
    by_cases hlt : k < q
    case pos =>
      have hB := HX.out
      have k1 : (k : Int) < (q : Int) := by omega
      have k2 : (k : Int) < (n1 : Int) := by omega
      obtain ⟨g, o, rfl, hg, a1⟩ := H1.out k (by omega)
      obtain ⟨g2, o2, rfl, hg2, a2⟩ := H2.out k (by omega)
      have u1 : wr.cell? ⟨g, o + k, none⟩ = some (.int .i64 (P k)) := (hB.cell (p := ⟨g, o + k, none⟩) hg).trans a1
      have u2 : wr.cell? ⟨g2, o2 + k, none⟩ = some (.int .i64 (F k)) := (hB.cell (p := ⟨g2, o2 + k, none⟩) hg2).trans a2
      have zg : g < wr.heap.size := Nat.lt_of_lt_of_le hg hB.size
      have zg2 : g2 < wr.heap.size := Nat.lt_of_lt_of_le hg2 hB.size
      have HMr : Hid (MapR wr t m S K V) := HM.out.below hB
      clear a1 a2 hg hg2
      have HP : Hid (surgeP G P F k = false) := HPN.out k hlt
      go_upto_region 13 with fail
      go_cut [47] (fun s wx => s = .bool false ∧ Below wr.heap.size wr wx)
      case first =>
        go_region_held3 (fun w' => w'.cell? ⟨g, o + k, none⟩ = some (.int .i64 (P k)) ∧ w'.cell? ⟨g2, o2 + k, none⟩ = some (.int .i64 (F k))) (first | (refine keep2s u1 u2 zg zg2 ?_; exact (by repeat (first | with_reducible exact Below.refl _ _ | with_reducible exact B3 | with_reducible refine Below.setCell ?_ (by first | omega | (simp; done) | (simp; omega)) _ | with_reducible refine bDrewN ?_ _ | with_reducible refine Below.drew ?_ | with_reducible refine Below.alloc ?_ (by first | omega | (simp; done) | (simp; omega)) _)))) (first
          | (go_at_call 14; refine (HT.out _ _ (HMr.out.below (by repeat (first | with_reducible exact Below.refl _ _ | with_reducible refine Below.setCell ?_ (by first | omega | (simp; done) | (simp; omega)) _ | with_reducible refine bDrewN ?_ _ | with_reducible refine Below.drew ?_ | with_reducible refine Below.alloc ?_ (by first | omega | (simp; done) | (simp; omega)) _)))).mono ?_; rintro e w3 ⟨f, rfl, hf, h3⟩; have B3 : Below wr.heap.size wr w3 := Below.trans (by repeat (first | with_reducible exact Below.refl _ _ | with_reducible refine Below.setCell ?_ (by first | omega | (simp; done) | (simp; omega)) _ | with_reducible refine bDrewN ?_ _ | with_reducible refine Below.drew ?_ | with_reducible refine Below.alloc ?_ (by first | omega | (simp; done) | (simp; omega)) _)) (h3.mono (by first | omega | (simp; done) | (simp; omega))); have s3 := B3.size; have hx : (FloatKind.f64.format.order (itf (F k)) f == some .lt) = false := (by rw [fl_order (itf_fl _) hf]; exact HP.out); clear h3))
        all_goals
          go_wp2_with fail
          go_meet
          case rel => exact ⟨by first | rfl | (simp [hx]), (by repeat (first | with_reducible exact Below.refl _ _ | with_reducible exact B3 | with_reducible refine Below.setCell ?_ (by first | omega | (simp; done) | (simp; omega)) _ | with_reducible refine bDrewN ?_ _ | with_reducible refine Below.drew ?_ | with_reducible refine Below.alloc ?_ (by first | omega | (simp; done) | (simp; omega)) _))⟩
      case rest =>
        obtain ⟨rfl, hC⟩ := hcut
        have HX9 : Hid (Below w4.heap.size w4 wc) := hB.trans (hC.mono hB.size)
        clear u1 u2 hC
        go_wp2
        go_roundw
        case rel => exact ⟨k + 1, by omega, by go_num, HX9⟩
        case measure => simp [intOf]; omega
    case neg =>
      obtain rfl : k = q := by omega
      clear hk hlt
      rename World => wa
      obtain ⟨g, o, rfl, hg, a1⟩ := H1.out k (by omega)
      obtain ⟨g2, o2, rfl, hg2, a2⟩ := H2.out k (by omega)
      have HMa : Hid (MapR wa t m S K V) := HM.out.below HX.out
      obtain ⟨X, hX⟩ : ∃ z, P k = z := ⟨_, rfl⟩
      obtain ⟨Y, hY⟩ : ∃ z, F k = z := ⟨_, rfl⟩
      have hYb := HF.out k (by omega)
      have hpq : ordO (some (itf (F k))) (G (P k)) = some .lt := by have := HPQ.out; unfold surgeP at this; simpa using this
      rw [hX] at a1 hpq
      rw [hY] at a2 hYb hpq
      have HPL : Hid (ordO (some (itf Y)) (G X) = some .lt) := hpq
      have HYF : Hid (rg (itf Y) < INF) := itf_fin hYb
      have e0 := (HX.out.cell (p := ⟨g, o + k, none⟩) hg).trans a1
      have d0 := (HX.out.cell (p := ⟨g2, o2 + k, none⟩) hg2).trans a2
      have zb : g < wa.heap.size := Nat.lt_of_lt_of_le hg HX.out.size
      have zp : g2 < wa.heap.size := Nat.lt_of_lt_of_le hg2 HX.out.size
      have HBa : Hid (Below w.heap.size w wa) := HB.out.trans (HX.out.mono HB.out.size)
      have E0 : Hid (wa.cell? ⟨g, o + k, none⟩ = some (.int .i64 X)) := e0
      have D0 : Hid (wa.cell? ⟨g2, o2 + k, none⟩ = some (.int .i64 Y)) := d0
      clear hX hY hYb hpq a1 a2 hg hg2 HX HB HM H1 H2 HF HPN HPQ
      go_upto_region 15 with fail
      refine wp_region_held_drew (S := fun w' => w'.cell? ⟨g, o + k, none⟩ = some (.int .i64 X) ∧ w'.cell? ⟨g2, o2 + k, none⟩ = some (.int .i64 Y)) (by kernel_rfl) ?_ (fun hHeld => ?_)
      · exact ⟨by simpa [go_sem] using e0, by simpa [go_sem] using d0⟩
      obtain ⟨v0, hv0⟩ : ∃ z, z = wa.drew := ⟨_, rfl⟩
      try rw [← hv0] at hHeld
      rw [← hv0]
      have bv0 : Below wa.heap.size wa v0 := by rw [hv0]; exact Below.drew (Below.refl _ _)
      clear hv0
      have HB9 : Hid (Below wa.heap.size wa v0) := bv0
      clear bv0
      refine wpAnyH_take (i := 0) (v := .slice t m cap) rfl (by kernel_rfl) (by kernel_rfl) (by kernel_rfl) (fun _ _ _ h => h) (Or.inl ⟨by kernel_rfl, ?_⟩) hHeld ?_
      · intro w' hSw
        obtain ⟨s0_, s1_⟩ := hSw
        first | (go_simp; done) | (go_simp; with_reducible rfl) | (go_simp; rw [IntKind.wrap_i64]; omega) | (go_simp; omega)
      simp only [Act.put, List.setIfInBounds_toArray, List.set_cons_zero, List.set_cons_succ]
      refine wpAnyH_take (i := 1) (v := .slice (some ⟨g, o, none⟩) n1 c1) rfl (by kernel_rfl) (by kernel_rfl) (by kernel_rfl) (fun _ _ _ h => h) (Or.inl ⟨by kernel_rfl, ?_⟩) hHeld ?_
      · intro w' hSw
        obtain ⟨s0_, s1_⟩ := hSw
        first | (go_simp; done) | (go_simp; with_reducible rfl) | (go_simp; rw [IntKind.wrap_i64]; omega) | (go_simp; omega)
      simp only [Act.put, List.setIfInBounds_toArray, List.set_cons_zero, List.set_cons_succ]
      refine wpAnyH_take (i := 2) (v := .int .i64 (k : Int)) rfl (by kernel_rfl) (by kernel_rfl) (by kernel_rfl) (fun _ _ _ h => h) (Or.inl ⟨by kernel_rfl, ?_⟩) hHeld ?_
      · intro w' hSw
        obtain ⟨s0_, s1_⟩ := hSw
        first | (go_simp; done) | (go_simp; with_reducible rfl) | (go_simp; rw [IntKind.wrap_i64]; omega) | (go_simp; omega)
      simp only [Act.put, List.setIfInBounds_toArray, List.set_cons_zero, List.set_cons_succ]
      refine wpAnyH_take (i := 3) (v := .pointer (some ⟨g, o + k, none⟩)) rfl (by kernel_rfl) (by kernel_rfl) (by kernel_rfl) (fun _ _ _ h => h) (Or.inl ⟨by kernel_rfl, ?_⟩) hHeld ?_
      · intro w' hSw
        obtain ⟨s0_, s1_⟩ := hSw
        first | (go_simp; done) | (go_simp; with_reducible rfl) | (go_simp; rw [IntKind.wrap_i64]; omega) | (go_simp; omega)
      simp only [Act.put, List.setIfInBounds_toArray, List.set_cons_zero, List.set_cons_succ]
      refine wpAnyH_take (i := 4) (v := .int .i64 X) rfl (by kernel_rfl) (by kernel_rfl) (by kernel_rfl) (fun _ _ _ h => h) (Or.inl ⟨by kernel_rfl, ?_⟩) hHeld ?_
      · intro w' hSw
        obtain ⟨s0_, s1_⟩ := hSw
        first | (go_simp; done) | (go_simp; with_reducible rfl) | (go_simp; rw [IntKind.wrap_i64]; omega) | (go_simp; omega)
      simp only [Act.put, List.setIfInBounds_toArray, List.set_cons_zero, List.set_cons_succ]
      refine wpAnyH_take (i := 5) (v := .slice (some ⟨g2, o2, none⟩) n1 c2) rfl (by kernel_rfl) (by kernel_rfl) (by kernel_rfl) (fun _ _ _ h => h) (Or.inl ⟨by kernel_rfl, ?_⟩) hHeld ?_
      · intro w' hSw
        obtain ⟨s0_, s1_⟩ := hSw
        first | (go_simp; done) | (go_simp; with_reducible rfl) | (go_simp; rw [IntKind.wrap_i64]; omega) | (go_simp; omega)
      simp only [Act.put, List.setIfInBounds_toArray, List.set_cons_zero, List.set_cons_succ]
      refine wpAnyH_take (i := 6) (v := .int .i64 (k : Int)) rfl (by kernel_rfl) (by kernel_rfl) (by kernel_rfl) (fun _ _ _ h => h) (Or.inl ⟨by kernel_rfl, ?_⟩) hHeld ?_
      · intro w' hSw
        obtain ⟨s0_, s1_⟩ := hSw
        first | (go_simp; done) | (go_simp; with_reducible rfl) | (go_simp; rw [IntKind.wrap_i64]; omega) | (go_simp; omega)
      simp only [Act.put, List.setIfInBounds_toArray, List.set_cons_zero, List.set_cons_succ]
      refine wpAnyH_take (i := 7) (v := .pointer (some ⟨g2, o2 + k, none⟩)) rfl (by kernel_rfl) (by kernel_rfl) (by kernel_rfl) (fun _ _ _ h => h) (Or.inl ⟨by kernel_rfl, ?_⟩) hHeld ?_
      · intro w' hSw
        obtain ⟨s0_, s1_⟩ := hSw
        first | (go_simp; done) | (go_simp; with_reducible rfl) | (go_simp; rw [IntKind.wrap_i64]; omega) | (go_simp; omega)
      simp only [Act.put, List.setIfInBounds_toArray, List.set_cons_zero, List.set_cons_succ]
      refine wpAnyH_take (i := 8) (v := .int .i64 Y) rfl (by kernel_rfl) (by kernel_rfl) (by kernel_rfl) (fun _ _ _ h => h) (Or.inl ⟨by kernel_rfl, ?_⟩) hHeld ?_
      · intro w' hSw
        obtain ⟨s0_, s1_⟩ := hSw
        first | (go_simp; done) | (go_simp; with_reducible rfl) | (go_simp; rw [IntKind.wrap_i64]; omega) | (go_simp; omega)
      simp only [Act.put, List.setIfInBounds_toArray, List.set_cons_zero, List.set_cons_succ]
      refine wpAnyH_ready (rs := [9]) (by kernel_rfl) (by simp) ?_
      refine (AllReadyH.cons rfl (fun KK hK => ?_) AllReadyH.nil)
      go_simp
      go_wp2_with (first | (go_at_call 18; refine (HMG.out X Y _ (HMa.out.below HB9.out)).mono ?_; rintro e v0_1 ⟨gg, rfl, hgg, b9⟩; replace HB9 : Hid (Below wa.heap.size wa v0_1) := HB9.out.trans (b9.mono HB9.out.size); clear b9))
      refine hK.out _ _ (⟨(HB9.out.cell (p := ⟨g, o + k, none⟩) zb).trans E0.out, (HB9.out.cell (p := ⟨g2, o2 + k, none⟩) zp).trans D0.out⟩) (fun hHeld => ?_)
      clear hK KK
      refine wpAnyH_ready (rs := [10]) (by kernel_rfl) (by simp) ?_
      refine AllReadyH.cons rfl (fun KK hK => ?_) AllReadyH.nil
      go_simp
      refine hK.out _ _ hHeld (fun hHeld => ?_)
      clear hK KK
      refine wpAnyH_done (by kernel_rfl) ?_ _
      clear hHeld
      have HGG : Hid (Fl gg (marginO (G X) Y)) := hgg
      clear hgg e0 d0
      obtain ⟨z, hz⟩ : ∃ z, itf Y = z := ⟨_, rfl⟩
      have HZ : Hid (itf Y = z) := hz
      have e0 := (HB9.out.cell (p := ⟨g, o + k, none⟩) zb).trans E0.out
      have d0 := (HB9.out.cell (p := ⟨g2, o2 + k, none⟩) zp).trans D0.out
      have HB8 : Hid (Below wa.heap.size wa v0_1) := HB9
      clear hz HB9
      have HLT : Hid (∀ r, Fl r (G X) → FloatKind.f64.format.order z r = some .lt) := fun r hr => by rw [← HZ.out, fl_order (itf_fl _) hr]; exact HPL.out
      have hcase : FloatKind.f64.format.order gg gg = none ∨ (FloatKind.f64.format.order gg gg = some .eq ∧ FloatKind.f64.format.order gg 0 = some .lt) := by
        obtain ⟨r0, hr0⟩ : ∃ r0, Fl r0 (G X) := HFX.out X
        have hs := surging_self HGG.out
        rcases marginO_neg hr0 HYF.out HPL.out with e | ⟨g', e, h'⟩
        · exact .inl (hs.1 e)
        · have := hs.2 g' e
          rw [this.1] at *
          exact .inr ⟨(this.2), h'⟩
      clear HGG HYF HPL HFX
      go_upto_region 16 with fail
      rcases hcase with hN | ⟨hE, hL⟩
      case inl =>
        refine wp_region_held_drew (S := fun w' => w'.cell? ⟨g, o + k, none⟩ = some (.int .i64 X) ∧ w'.cell? ⟨g2, o2 + k, none⟩ = some (.int .i64 Y)) (by kernel_rfl) ?_ (fun hHeld => ?_)
        · exact ⟨by simpa [go_sem] using e0, by simpa [go_sem] using d0⟩
        obtain ⟨y00_, hv0⟩ : ∃ z, z = v0_1.drew := ⟨_, rfl⟩
        try rw [← hv0] at hHeld
        rw [← hv0]
        have bv0 : Below v0_1.heap.size v0_1 y00_ := by rw [hv0]; exact Below.drew (Below.refl _ _)
        clear hv0
        have HB9 : Hid (Below wa.heap.size wa y00_) := HB8.out.trans (bv0.mono HB8.out.size)
        clear bv0
        refine wpAnyH_take (i := 0) (v := .slice (some ⟨g2, o2, none⟩) n1 c2) rfl (by kernel_rfl) (by kernel_rfl) (by kernel_rfl) (fun _ _ _ h => h) (Or.inl ⟨by kernel_rfl, ?_⟩) hHeld ?_
        · intro w' hSw
          obtain ⟨s0_, s1_⟩ := hSw
          first | (go_simp; done) | (go_simp; with_reducible rfl) | (go_simp; rw [IntKind.wrap_i64]; omega) | (go_simp; omega)
        simp only [Act.put, List.setIfInBounds_toArray, List.set_cons_zero, List.set_cons_succ]
        refine wpAnyH_take (i := 1) (v := .int .i64 (k : Int)) rfl (by kernel_rfl) (by kernel_rfl) (by kernel_rfl) (fun _ _ _ h => h) (Or.inl ⟨by kernel_rfl, ?_⟩) hHeld ?_
        · intro w' hSw
          obtain ⟨s0_, s1_⟩ := hSw
          first | (go_simp; done) | (go_simp; with_reducible rfl) | (go_simp; rw [IntKind.wrap_i64]; omega) | (go_simp; omega)
        simp only [Act.put, List.setIfInBounds_toArray, List.set_cons_zero, List.set_cons_succ]
        refine wpAnyH_take (i := 2) (v := .pointer (some ⟨g2, o2 + k, none⟩)) rfl (by kernel_rfl) (by kernel_rfl) (by kernel_rfl) (fun _ _ _ h => h) (Or.inl ⟨by kernel_rfl, ?_⟩) hHeld ?_
        · intro w' hSw
          obtain ⟨s0_, s1_⟩ := hSw
          first | (go_simp; done) | (go_simp; with_reducible rfl) | (go_simp; rw [IntKind.wrap_i64]; omega) | (go_simp; omega)
        simp only [Act.put, List.setIfInBounds_toArray, List.set_cons_zero, List.set_cons_succ]
        refine wpAnyH_take (i := 3) (v := .int .i64 Y) rfl (by kernel_rfl) (by kernel_rfl) (by kernel_rfl) (fun _ _ _ h => h) (Or.inl ⟨by kernel_rfl, ?_⟩) hHeld ?_
        · intro w' hSw
          obtain ⟨s0_, s1_⟩ := hSw
          first | (go_simp; done) | (go_simp; with_reducible rfl) | (go_simp; rw [IntKind.wrap_i64]; omega) | (go_simp; omega)
        simp only [Act.put, List.setIfInBounds_toArray, List.set_cons_zero, List.set_cons_succ]
        refine wpAnyH_take (i := 4) (v := .float .f64 z) rfl (by kernel_rfl) (by kernel_rfl) (by kernel_rfl) (fun _ _ _ h => h) (Or.inl ⟨by kernel_rfl, ?_⟩) hHeld ?_
        · intro w' hSw
          obtain ⟨s0_, s1_⟩ := hSw
          (rw [← HZ.out]; kernel_rfl)
        simp only [Act.put, List.setIfInBounds_toArray, List.set_cons_zero, List.set_cons_succ]
        refine wpAnyH_take (i := 5) (v := .slice t m cap) rfl (by kernel_rfl) (by kernel_rfl) (by kernel_rfl) (fun _ _ _ h => h) (Or.inl ⟨by kernel_rfl, ?_⟩) hHeld ?_
        · intro w' hSw
          obtain ⟨s0_, s1_⟩ := hSw
          first | (go_simp; done) | (go_simp; with_reducible rfl) | (go_simp; rw [IntKind.wrap_i64]; omega) | (go_simp; omega)
        simp only [Act.put, List.setIfInBounds_toArray, List.set_cons_zero, List.set_cons_succ]
        refine wpAnyH_take (i := 6) (v := .slice (some ⟨g, o, none⟩) n1 c1) rfl (by kernel_rfl) (by kernel_rfl) (by kernel_rfl) (fun _ _ _ h => h) (Or.inl ⟨by kernel_rfl, ?_⟩) hHeld ?_
        · intro w' hSw
          obtain ⟨s0_, s1_⟩ := hSw
          first | (go_simp; done) | (go_simp; with_reducible rfl) | (go_simp; rw [IntKind.wrap_i64]; omega) | (go_simp; omega)
        simp only [Act.put, List.setIfInBounds_toArray, List.set_cons_zero, List.set_cons_succ]
        refine wpAnyH_take (i := 7) (v := .int .i64 (k : Int)) rfl (by kernel_rfl) (by kernel_rfl) (by kernel_rfl) (fun _ _ _ h => h) (Or.inl ⟨by kernel_rfl, ?_⟩) hHeld ?_
        · intro w' hSw
          obtain ⟨s0_, s1_⟩ := hSw
          first | (go_simp; done) | (go_simp; with_reducible rfl) | (go_simp; rw [IntKind.wrap_i64]; omega) | (go_simp; omega)
        simp only [Act.put, List.setIfInBounds_toArray, List.set_cons_zero, List.set_cons_succ]
        refine wpAnyH_take (i := 8) (v := .pointer (some ⟨g, o + k, none⟩)) rfl (by kernel_rfl) (by kernel_rfl) (by kernel_rfl) (fun _ _ _ h => h) (Or.inl ⟨by kernel_rfl, ?_⟩) hHeld ?_
        · intro w' hSw
          obtain ⟨s0_, s1_⟩ := hSw
          first | (go_simp; done) | (go_simp; with_reducible rfl) | (go_simp; rw [IntKind.wrap_i64]; omega) | (go_simp; omega)
        simp only [Act.put, List.setIfInBounds_toArray, List.set_cons_zero, List.set_cons_succ]
        refine wpAnyH_take (i := 9) (v := .int .i64 X) rfl (by kernel_rfl) (by kernel_rfl) (by kernel_rfl) (fun _ _ _ h => h) (Or.inl ⟨by kernel_rfl, ?_⟩) hHeld ?_
        · intro w' hSw
          obtain ⟨s0_, s1_⟩ := hSw
          first | (go_simp; done) | (go_simp; with_reducible rfl) | (go_simp; rw [IntKind.wrap_i64]; omega) | (go_simp; omega)
        simp only [Act.put, List.setIfInBounds_toArray, List.set_cons_zero, List.set_cons_succ]
        refine wpAnyH_ready (rs := [10]) (by kernel_rfl) (by simp) ?_
        refine (AllReadyH.cons rfl (fun KK hK => ?_) AllReadyH.nil)
        go_simp
        go_wp2_with (first | (go_at_call 14; refine (HT.out X _ (HMa.out.below HB9.out)).mono ?_; rintro e y00__1 ⟨rr, rfl, hrr, b9⟩; replace HB9 : Hid (Below wa.heap.size wa y00__1) := HB9.out.trans (b9.mono HB9.out.size); clear b9; have hLT := HLT.out rr hrr; clear hrr))
        refine hK.out _ _ (⟨(HB9.out.cell (p := ⟨g, o + k, none⟩) zb).trans E0.out, (HB9.out.cell (p := ⟨g2, o2 + k, none⟩) zp).trans D0.out⟩) (fun hHeld => ?_)
        clear hK KK
        refine wpAnyH_take (i := 11) (v := .bool true) rfl (by kernel_rfl) (by kernel_rfl) (by kernel_rfl) (fun _ _ _ h => h) (Or.inl ⟨by kernel_rfl, ?_⟩) hHeld ?_
        · intro w' hSw
          obtain ⟨s0_, s1_⟩ := hSw
          first | (go_simp; done) | (go_simp; with_reducible rfl) | (go_simp; rw [IntKind.wrap_i64]; omega) | (go_simp; omega)
        simp only [Act.put, List.setIfInBounds_toArray, List.set_cons_zero, List.set_cons_succ]
        refine wpAnyH_take (i := 12) (v := .bool true) rfl (by kernel_rfl) (by kernel_rfl) (by kernel_rfl) (fun _ _ _ h => h) (Or.inl ⟨by kernel_rfl, ?_⟩) hHeld ?_
        · intro w' hSw
          obtain ⟨s0_, s1_⟩ := hSw
          first | (go_simp; done) | (go_simp; with_reducible rfl) | (go_simp; rw [IntKind.wrap_i64]; omega) | (go_simp; omega)
        simp only [Act.put, List.setIfInBounds_toArray, List.set_cons_zero, List.set_cons_succ]
        refine wpAnyH_take (i := 13) (v := .float .f64 gg) rfl (by kernel_rfl) (by kernel_rfl) (by kernel_rfl) (fun _ _ _ h => h) (Or.inl ⟨by kernel_rfl, ?_⟩) hHeld ?_
        · intro w' hSw
          obtain ⟨s0_, s1_⟩ := hSw
          first | (go_simp; done) | (go_simp; with_reducible rfl) | (go_simp; rw [IntKind.wrap_i64]; omega) | (go_simp; omega)
        simp only [Act.put, List.setIfInBounds_toArray, List.set_cons_zero, List.set_cons_succ]
        refine wpAnyH_take (i := 14) (v := .float .f64 gg) rfl (by kernel_rfl) (by kernel_rfl) (by kernel_rfl) (fun _ _ _ h => h) (Or.inl ⟨by kernel_rfl, ?_⟩) hHeld ?_
        · intro w' hSw
          obtain ⟨s0_, s1_⟩ := hSw
          first | (go_simp; done) | (go_simp; with_reducible rfl) | (go_simp; rw [IntKind.wrap_i64]; omega) | (go_simp; omega)
        simp only [Act.put, List.setIfInBounds_toArray, List.set_cons_zero, List.set_cons_succ]
        refine wpAnyH_take (i := 15) (v := .bool true) rfl (by kernel_rfl) (by kernel_rfl) (by kernel_rfl) (fun _ _ _ h => h) (Or.inl ⟨by kernel_rfl, ?_⟩) hHeld ?_
        · intro w' hSw
          obtain ⟨s0_, s1_⟩ := hSw
          first | (go_simp; done) | (go_simp; with_reducible rfl) | (go_simp; rw [IntKind.wrap_i64]; omega) | (go_simp; omega)
        simp only [Act.put, List.setIfInBounds_toArray, List.set_cons_zero, List.set_cons_succ]
        refine wpAnyH_take (i := 16) (v := .bool true) rfl (by kernel_rfl) (by kernel_rfl) (by kernel_rfl) (fun _ _ _ h => h) (Or.inl ⟨by kernel_rfl, ?_⟩) hHeld ?_
        · intro w' hSw
          obtain ⟨s0_, s1_⟩ := hSw
          first | (go_simp; done) | (go_simp; with_reducible rfl) | (go_simp; rw [IntKind.wrap_i64]; omega) | (go_simp; omega)
        simp only [Act.put, List.setIfInBounds_toArray, List.set_cons_zero, List.set_cons_succ]
        refine wpAnyH_take (i := 17) (v := undef) rfl (by kernel_rfl) (by kernel_rfl) (by kernel_rfl) (fun _ _ _ h => h) (Or.inr ⟨by kernel_rfl, rfl⟩) hHeld ?_
        simp only [Act.put, List.setIfInBounds_toArray, List.set_cons_zero, List.set_cons_succ]
        refine wpAnyH_take (i := 18) (v := undef) rfl (by kernel_rfl) (by kernel_rfl) (by kernel_rfl) (fun _ _ _ h => h) (Or.inr ⟨by kernel_rfl, rfl⟩) hHeld ?_
        simp only [Act.put, List.setIfInBounds_toArray, List.set_cons_zero, List.set_cons_succ]
        refine wpAnyH_take (i := 19) (v := .bool true) rfl (by kernel_rfl) (by kernel_rfl) (by kernel_rfl) (fun _ _ _ h => h) (Or.inl ⟨by kernel_rfl, ?_⟩) hHeld ?_
        · intro w' hSw
          obtain ⟨s0_, s1_⟩ := hSw
          first | (go_simp; done) | (go_simp; with_reducible rfl) | (go_simp; rw [IntKind.wrap_i64]; omega) | (go_simp; omega)
        simp only [Act.put, List.setIfInBounds_toArray, List.set_cons_zero, List.set_cons_succ]
        refine wpAnyH_take (i := 20) (v := .bool true) rfl (by kernel_rfl) (by kernel_rfl) (by kernel_rfl) (fun _ _ _ h => h) (Or.inl ⟨by kernel_rfl, ?_⟩) hHeld ?_
        · intro w' hSw
          obtain ⟨s0_, s1_⟩ := hSw
          first | (go_simp; done) | (go_simp; with_reducible rfl) | (go_simp; rw [IntKind.wrap_i64]; omega) | (go_simp; omega)
        simp only [Act.put, List.setIfInBounds_toArray, List.set_cons_zero, List.set_cons_succ]
        refine wpAnyH_ready (rs := [21]) (by kernel_rfl) (by simp) ?_
        refine AllReadyH.cons rfl (fun KK hK => ?_) AllReadyH.nil
        go_simp
        refine hK.out _ _ hHeld (fun hHeld => ?_)
        clear hK KK
        refine wpAnyH_done (by kernel_rfl) ?_ _
        clear hHeld
        have BF : Below w.heap.size w y00__1 := HBa.out.trans (HB9.out.mono HBa.out.size)
        clear HB9
        go_wp2
        go_ret
        exact ⟨rfl, BF⟩
      case inr =>
        refine wp_region_held_drew (S := fun w' => w'.cell? ⟨g, o + k, none⟩ = some (.int .i64 X) ∧ w'.cell? ⟨g2, o2 + k, none⟩ = some (.int .i64 Y)) (by kernel_rfl) ?_ (fun hHeld => ?_)
        · exact ⟨by simpa [go_sem] using e0, by simpa [go_sem] using d0⟩
        obtain ⟨y10_, hv0⟩ : ∃ z, z = v0_1.drew := ⟨_, rfl⟩
        try rw [← hv0] at hHeld
        rw [← hv0]
        have bv0 : Below v0_1.heap.size v0_1 y10_ := by rw [hv0]; exact Below.drew (Below.refl _ _)
        clear hv0
        have HB9 : Hid (Below wa.heap.size wa y10_) := HB8.out.trans (bv0.mono HB8.out.size)
        clear bv0
        refine wpAnyH_take (i := 0) (v := .slice (some ⟨g2, o2, none⟩) n1 c2) rfl (by kernel_rfl) (by kernel_rfl) (by kernel_rfl) (fun _ _ _ h => h) (Or.inl ⟨by kernel_rfl, ?_⟩) hHeld ?_
        · intro w' hSw
          obtain ⟨s0_, s1_⟩ := hSw
          first | (go_simp; done) | (go_simp; with_reducible rfl) | (go_simp; rw [IntKind.wrap_i64]; omega) | (go_simp; omega)
        simp only [Act.put, List.setIfInBounds_toArray, List.set_cons_zero, List.set_cons_succ]
        refine wpAnyH_take (i := 1) (v := .int .i64 (k : Int)) rfl (by kernel_rfl) (by kernel_rfl) (by kernel_rfl) (fun _ _ _ h => h) (Or.inl ⟨by kernel_rfl, ?_⟩) hHeld ?_
        · intro w' hSw
          obtain ⟨s0_, s1_⟩ := hSw
          first | (go_simp; done) | (go_simp; with_reducible rfl) | (go_simp; rw [IntKind.wrap_i64]; omega) | (go_simp; omega)
        simp only [Act.put, List.setIfInBounds_toArray, List.set_cons_zero, List.set_cons_succ]
        refine wpAnyH_take (i := 2) (v := .pointer (some ⟨g2, o2 + k, none⟩)) rfl (by kernel_rfl) (by kernel_rfl) (by kernel_rfl) (fun _ _ _ h => h) (Or.inl ⟨by kernel_rfl, ?_⟩) hHeld ?_
        · intro w' hSw
          obtain ⟨s0_, s1_⟩ := hSw
          first | (go_simp; done) | (go_simp; with_reducible rfl) | (go_simp; rw [IntKind.wrap_i64]; omega) | (go_simp; omega)
        simp only [Act.put, List.setIfInBounds_toArray, List.set_cons_zero, List.set_cons_succ]
        refine wpAnyH_take (i := 3) (v := .int .i64 Y) rfl (by kernel_rfl) (by kernel_rfl) (by kernel_rfl) (fun _ _ _ h => h) (Or.inl ⟨by kernel_rfl, ?_⟩) hHeld ?_
        · intro w' hSw
          obtain ⟨s0_, s1_⟩ := hSw
          first | (go_simp; done) | (go_simp; with_reducible rfl) | (go_simp; rw [IntKind.wrap_i64]; omega) | (go_simp; omega)
        simp only [Act.put, List.setIfInBounds_toArray, List.set_cons_zero, List.set_cons_succ]
        refine wpAnyH_take (i := 4) (v := .float .f64 z) rfl (by kernel_rfl) (by kernel_rfl) (by kernel_rfl) (fun _ _ _ h => h) (Or.inl ⟨by kernel_rfl, ?_⟩) hHeld ?_
        · intro w' hSw
          obtain ⟨s0_, s1_⟩ := hSw
          (rw [← HZ.out]; kernel_rfl)
        simp only [Act.put, List.setIfInBounds_toArray, List.set_cons_zero, List.set_cons_succ]
        refine wpAnyH_take (i := 5) (v := .slice t m cap) rfl (by kernel_rfl) (by kernel_rfl) (by kernel_rfl) (fun _ _ _ h => h) (Or.inl ⟨by kernel_rfl, ?_⟩) hHeld ?_
        · intro w' hSw
          obtain ⟨s0_, s1_⟩ := hSw
          first | (go_simp; done) | (go_simp; with_reducible rfl) | (go_simp; rw [IntKind.wrap_i64]; omega) | (go_simp; omega)
        simp only [Act.put, List.setIfInBounds_toArray, List.set_cons_zero, List.set_cons_succ]
        refine wpAnyH_take (i := 6) (v := .slice (some ⟨g, o, none⟩) n1 c1) rfl (by kernel_rfl) (by kernel_rfl) (by kernel_rfl) (fun _ _ _ h => h) (Or.inl ⟨by kernel_rfl, ?_⟩) hHeld ?_
        · intro w' hSw
          obtain ⟨s0_, s1_⟩ := hSw
          first | (go_simp; done) | (go_simp; with_reducible rfl) | (go_simp; rw [IntKind.wrap_i64]; omega) | (go_simp; omega)
        simp only [Act.put, List.setIfInBounds_toArray, List.set_cons_zero, List.set_cons_succ]
        refine wpAnyH_take (i := 7) (v := .int .i64 (k : Int)) rfl (by kernel_rfl) (by kernel_rfl) (by kernel_rfl) (fun _ _ _ h => h) (Or.inl ⟨by kernel_rfl, ?_⟩) hHeld ?_
        · intro w' hSw
          obtain ⟨s0_, s1_⟩ := hSw
          first | (go_simp; done) | (go_simp; with_reducible rfl) | (go_simp; rw [IntKind.wrap_i64]; omega) | (go_simp; omega)
        simp only [Act.put, List.setIfInBounds_toArray, List.set_cons_zero, List.set_cons_succ]
        refine wpAnyH_take (i := 8) (v := .pointer (some ⟨g, o + k, none⟩)) rfl (by kernel_rfl) (by kernel_rfl) (by kernel_rfl) (fun _ _ _ h => h) (Or.inl ⟨by kernel_rfl, ?_⟩) hHeld ?_
        · intro w' hSw
          obtain ⟨s0_, s1_⟩ := hSw
          first | (go_simp; done) | (go_simp; with_reducible rfl) | (go_simp; rw [IntKind.wrap_i64]; omega) | (go_simp; omega)
        simp only [Act.put, List.setIfInBounds_toArray, List.set_cons_zero, List.set_cons_succ]
        refine wpAnyH_take (i := 9) (v := .int .i64 X) rfl (by kernel_rfl) (by kernel_rfl) (by kernel_rfl) (fun _ _ _ h => h) (Or.inl ⟨by kernel_rfl, ?_⟩) hHeld ?_
        · intro w' hSw
          obtain ⟨s0_, s1_⟩ := hSw
          first | (go_simp; done) | (go_simp; with_reducible rfl) | (go_simp; rw [IntKind.wrap_i64]; omega) | (go_simp; omega)
        simp only [Act.put, List.setIfInBounds_toArray, List.set_cons_zero, List.set_cons_succ]
        refine wpAnyH_ready (rs := [10]) (by kernel_rfl) (by simp) ?_
        refine (AllReadyH.cons rfl (fun KK hK => ?_) AllReadyH.nil)
        go_simp
        go_wp2_with (first | (go_at_call 14; refine (HT.out X _ (HMa.out.below HB9.out)).mono ?_; rintro e y10__1 ⟨rr, rfl, hrr, b9⟩; replace HB9 : Hid (Below wa.heap.size wa y10__1) := HB9.out.trans (b9.mono HB9.out.size); clear b9; have hLT := HLT.out rr hrr; clear hrr))
        refine hK.out _ _ (⟨(HB9.out.cell (p := ⟨g, o + k, none⟩) zb).trans E0.out, (HB9.out.cell (p := ⟨g2, o2 + k, none⟩) zp).trans D0.out⟩) (fun hHeld => ?_)
        clear hK KK
        refine wpAnyH_take (i := 11) (v := .bool true) rfl (by kernel_rfl) (by kernel_rfl) (by kernel_rfl) (fun _ _ _ h => h) (Or.inl ⟨by kernel_rfl, ?_⟩) hHeld ?_
        · intro w' hSw
          obtain ⟨s0_, s1_⟩ := hSw
          first | (go_simp; done) | (go_simp; with_reducible rfl) | (go_simp; rw [IntKind.wrap_i64]; omega) | (go_simp; omega)
        simp only [Act.put, List.setIfInBounds_toArray, List.set_cons_zero, List.set_cons_succ]
        refine wpAnyH_take (i := 12) (v := .bool true) rfl (by kernel_rfl) (by kernel_rfl) (by kernel_rfl) (fun _ _ _ h => h) (Or.inl ⟨by kernel_rfl, ?_⟩) hHeld ?_
        · intro w' hSw
          obtain ⟨s0_, s1_⟩ := hSw
          first | (go_simp; done) | (go_simp; with_reducible rfl) | (go_simp; rw [IntKind.wrap_i64]; omega) | (go_simp; omega)
        simp only [Act.put, List.setIfInBounds_toArray, List.set_cons_zero, List.set_cons_succ]
        refine wpAnyH_take (i := 13) (v := .float .f64 gg) rfl (by kernel_rfl) (by kernel_rfl) (by kernel_rfl) (fun _ _ _ h => h) (Or.inl ⟨by kernel_rfl, ?_⟩) hHeld ?_
        · intro w' hSw
          obtain ⟨s0_, s1_⟩ := hSw
          first | (go_simp; done) | (go_simp; with_reducible rfl) | (go_simp; rw [IntKind.wrap_i64]; omega) | (go_simp; omega)
        simp only [Act.put, List.setIfInBounds_toArray, List.set_cons_zero, List.set_cons_succ]
        refine wpAnyH_take (i := 14) (v := .float .f64 gg) rfl (by kernel_rfl) (by kernel_rfl) (by kernel_rfl) (fun _ _ _ h => h) (Or.inl ⟨by kernel_rfl, ?_⟩) hHeld ?_
        · intro w' hSw
          obtain ⟨s0_, s1_⟩ := hSw
          first | (go_simp; done) | (go_simp; with_reducible rfl) | (go_simp; rw [IntKind.wrap_i64]; omega) | (go_simp; omega)
        simp only [Act.put, List.setIfInBounds_toArray, List.set_cons_zero, List.set_cons_succ]
        refine wpAnyH_take (i := 15) (v := .bool false) rfl (by kernel_rfl) (by kernel_rfl) (by kernel_rfl) (fun _ _ _ h => h) (Or.inl ⟨by kernel_rfl, ?_⟩) hHeld ?_
        · intro w' hSw
          obtain ⟨s0_, s1_⟩ := hSw
          first | (go_simp; done) | (go_simp; with_reducible rfl) | (go_simp; rw [IntKind.wrap_i64]; omega) | (go_simp; omega)
        simp only [Act.put, List.setIfInBounds_toArray, List.set_cons_zero, List.set_cons_succ]
        refine wpAnyH_take (i := 16) (v := .bool false) rfl (by kernel_rfl) (by kernel_rfl) (by kernel_rfl) (fun _ _ _ h => h) (Or.inl ⟨by kernel_rfl, ?_⟩) hHeld ?_
        · intro w' hSw
          obtain ⟨s0_, s1_⟩ := hSw
          first | (go_simp; done) | (go_simp; with_reducible rfl) | (go_simp; rw [IntKind.wrap_i64]; omega) | (go_simp; omega)
        simp only [Act.put, List.setIfInBounds_toArray, List.set_cons_zero, List.set_cons_succ]
        refine wpAnyH_take (i := 17) (v := .float .f64 gg) rfl (by kernel_rfl) (by kernel_rfl) (by kernel_rfl) (fun _ _ _ h => h) (Or.inl ⟨by kernel_rfl, ?_⟩) hHeld ?_
        · intro w' hSw
          obtain ⟨s0_, s1_⟩ := hSw
          first | (go_simp; done) | (go_simp; with_reducible rfl) | (go_simp; rw [IntKind.wrap_i64]; omega) | (go_simp; omega)
        simp only [Act.put, List.setIfInBounds_toArray, List.set_cons_zero, List.set_cons_succ]
        refine wpAnyH_take (i := 18) (v := .bool true) rfl (by kernel_rfl) (by kernel_rfl) (by kernel_rfl) (fun _ _ _ h => h) (Or.inl ⟨by kernel_rfl, ?_⟩) hHeld ?_
        · intro w' hSw
          obtain ⟨s0_, s1_⟩ := hSw
          first | (go_simp; done) | (go_simp; with_reducible rfl) | (go_simp; rw [IntKind.wrap_i64]; omega) | (go_simp; omega)
        simp only [Act.put, List.setIfInBounds_toArray, List.set_cons_zero, List.set_cons_succ]
        refine wpAnyH_take (i := 19) (v := .bool true) rfl (by kernel_rfl) (by kernel_rfl) (by kernel_rfl) (fun _ _ _ h => h) (Or.inl ⟨by kernel_rfl, ?_⟩) hHeld ?_
        · intro w' hSw
          obtain ⟨s0_, s1_⟩ := hSw
          first | (go_simp; done) | (go_simp; with_reducible rfl) | (go_simp; rw [IntKind.wrap_i64]; omega) | (go_simp; omega)
        simp only [Act.put, List.setIfInBounds_toArray, List.set_cons_zero, List.set_cons_succ]
        refine wpAnyH_take (i := 20) (v := .bool true) rfl (by kernel_rfl) (by kernel_rfl) (by kernel_rfl) (fun _ _ _ h => h) (Or.inl ⟨by kernel_rfl, ?_⟩) hHeld ?_
        · intro w' hSw
          obtain ⟨s0_, s1_⟩ := hSw
          first | (go_simp; done) | (go_simp; with_reducible rfl) | (go_simp; rw [IntKind.wrap_i64]; omega) | (go_simp; omega)
        simp only [Act.put, List.setIfInBounds_toArray, List.set_cons_zero, List.set_cons_succ]
        refine wpAnyH_ready (rs := [21]) (by kernel_rfl) (by simp) ?_
        refine AllReadyH.cons rfl (fun KK hK => ?_) AllReadyH.nil
        go_simp
        refine hK.out _ _ hHeld (fun hHeld => ?_)
        clear hK KK
        refine wpAnyH_done (by kernel_rfl) ?_ _
        clear hHeld
        have BF : Below w.heap.size w y10__1 := HBa.out.trans (HB9.out.mono HBa.out.size)
        clear HB9
        go_wp2
        go_ret
        exact ⟨rfl, BF⟩
theorem fnSurging_walk (w : World) (s : Option Addr) (n c : Nat) (hn : n ≤ 9223372036854775807) (R : Bytes w s n) :
    Calls Try.prog 4 #[.slice s n c] w fun e w' => e = .returned (.bool true) ∧ Below w.heap.size w w' := by
  by_cases h : n ≤ 1048576
  · exact surging_near w s n c (by omega) (R.code h)
  · exact surging_far w s n c (by omega)

set_option maxRecDepth 100000 in
theorem fnSurging_lifted (os : Os) (started : os.Started) (H : Type) (enc : TypeId × Value → H) :
    ReturnsInHanded {} Try.checked os 4 .any (Rows.fnSurgingSpec.pre6 enc Try.prog Try.f4 Rows.fnSurgingRow.domain false) (Rows.fnSurgingSpec.post enc Try.prog Try.f4 false true false false) := by
  refine returnsInHanded_of_change (C := Try.checked) own started (by kernel_rfl) Try.func4
    (ChangeSpec.witness6 (enc := enc) (C := Try.checked) false ⟨#[], #[.slice none 0 0], []⟩ 8 (by kernel_rfl) (by kernel_rfl) (by kernel_rfl) (by kernel_rfl)) ?_
  intro W base args ds gs before hval0 hW hcnd _
  have hval : ∀ (j : Nat) t v, Try.f4.params[j]? = some t → args[j]? = some v → Value.okWide Try.prog W .any base t v := hval0
  have hW' := hW
  obtain ⟨p, q, hA0, hV, rfl, hfz, hnd⟩ := hW
  have hA : DataW.TrodAll enc Try.prog W 0 (fun _ => true) true Try.f4.params.toList args.toList ds p := hA0
  rw [Try.params4] at hA hval
  obtain ⟨v0, vs0, d0, ds0, p0, q0, hargs, rfl, rfl, h0, r0⟩ := trodAll_cons hA
  obtain ⟨rfl, rfl, rfl⟩ := trodAll_nil r0
  obtain rfl : args = #[v0] := by cases args; simp_all
  obtain ⟨rfl, rfl⟩ := trodVars_none hV
  have k0 := h0
  have lt0 : ∀ x ∈ p0, x.block < W.heap.size := by obtain ⟨m, hm⟩ := k0; exact DataW.trod_lt m _ _ _ hm
  obtain ⟨s0, n0, c0, rfl, m0, R0⟩ := open_code Try.underlying22 Try.underlying5 (by kernel_rfl) (hval 0 22 v0 rfl rfl) h0
  clear hA0 hval0
  refine (fnSurging_walk W s0 n0 c0 m0 R0).mono fun e W' ⟨he, bel⟩ => ?_
  subst he
  exact ⟨_, rfl, _, _, _, [], _, [], hW', trodAll_mk1 (shut_bool Try.underlying4 _), (trodAll_cons_mk (Below.trod laidOut (by kernel_rfl) (of_decide_eq_true (by kernel_rfl)) k0 bel lt0) trodAll_mk0), rfl, bel.frame _, fun h => by cases h⟩

theorem fnSurging_holds : Rows.FnSurgingSaid :=
  OpenClaim.holds_of_wide 4 Try.f4 rfl rfl rfl rfl rfl rfl rfl ⟨rfl, rfl, rfl, rfl, rfl⟩ rfl rfl rfl rfl rfl (by kernel_rfl) Try.func4 (by kernel_rfl)
    (of_decide_eq_true (by kernel_rfl)) (by unfold Func.isWrapper; first | (rw [if_pos (by decide +kernel)]; kernel_rfl) | (rw [if_neg (by decide +kernel)]; exact ⟨rfl, rfl⟩))
    (fun os started H enc _ => fnSurging_lifted os started H enc)
#print axioms fnSurging_holds
end Go.Proofs.Ytbabedfbadlhjaa
