/-
What is proved: the shares of a drawn load are together the load, none below 0 or above its most, and at one fall less the units give less than the load; at every code, no condition.
-/
import Derived.Test.YtgekkblfnfclmaaUnF
import Derived.Test.YtgekkblfnfclmaaShn
import Derived.Test.YtgekkblfnfclmaaShS
import Derived.Test.YtgekkblfnfclmaaShI
import Derived.Test.YtgekkblfnfclmaaOpen8
import Derived.Deep.RegionHeld3
import Derived.Deep.DeepCutAuto
import Derived.BigQuiet
import Derived.Deep.QuietTactic
namespace Go.Proofs.Ytgekkblfnfclmaa
set_option maxRecDepth 40000
open Go.ChangeShapes Go.WideShapes Go.ChangeAt Go.RowKit
set_option linter.unusedVariables false
set_option linter.unusedSimpArgs false

theorem gv_low {V : Nat → Int} {j : Nat} {f : Int} (h : unitB V j = true) (f0 : -1 ≤ f) (f1 : f ≤ 1000000) : -1000 ≤ V (j * 2 + 1) * f ∧ V (j * 2 + 1) * f ≤ 1000000000 := by
  obtain ⟨a, b, c, d⟩ := unit_yes h
  rcases Int.lt_or_le f 0 with q | q
  · obtain rfl : f = -1 := by omega
    omega
  · have := mul_rng c d q f1
    omega
theorem gv_two {V : Nat → Int} {j : Nat} {f : Int} (h : unitB V j = true) (f0 : -1 ≤ f) (f1 : f ≤ 1000000) : -1000 ≤ gvV V f j ∧ gvV V f j ≤ 1000000 := by
  have := gv_low h f0 f1
  have := unit_yes h
  unfold gvV
  omega
theorem all_two {V : Nat → Int} {f : Int} (f0 : -1 ≤ f) (f1 : f ≤ 1000000) : ∀ {n : Nat}, (∀ j, j < n → unitB V j = true) → -1000 * (n : Int) ≤ allV V f n ∧ allV V f n ≤ 1000000 * n
  | 0, _ => by unfold allV; omega
  | k + 1, h => by
    have a := all_two f0 f1 (n := k) fun j hj => h j (by omega)
    have b := gv_two (h k (by omega)) f0 f1
    show _ ≤ allV V f k + gvV V f k ∧ allV V f k + gvV V f k ≤ _
    omega
theorem wrap_in {x : Int} (h0 : -9223372036854775808 ≤ x) (h1 : x ≤ 9223372036854775807) : IntKind.i64.wrap x = x := by
  rw [IntKind.wrap_i64]; omega
set_option maxRecDepth 20000 in
set_option maxHeartbeats 1000000 in
theorem sum_any (s : Option Addr) (n c : Nat) (V : Nat → Int) (w : World) (hn : (n : Int) ≤ 50) (HR : Hid (RowI w s n V)) (HB : Hid (∀ k, k ≤ n → 0 ≤ sumTo V k ∧ sumTo V k ≤ 1000000000)) :
    Calls Try.prog 19 #[.slice s n c] w fun e w' => e = .returned (.int .i64 (sumTo V n)) ∧ w' = w := by
  go_enter Try.func19, Try.ntmps19
  go_wp2_with fail
  go_loop [3, 4] (fun q i => ∃ k : Nat, k ≤ n ∧ i = .int .i64 k ∧ q = .int .i64 (sumTo V k)) (fun _ i => n - (intOf i).toNat)
  case atStart => exact ⟨0, Nat.zero_le _, rfl, rfl⟩
  case round =>
    obtain ⟨k, hk, rfl, rfl⟩ := hrel
    by_cases h1 : k < n
    · obtain ⟨g, o, rfl, hg, c0⟩ := HR.out k h1
      have k1 : (k : Int) < (n : Int) := by omega
      obtain ⟨b0, b1⟩ := HB.out k hk
      have E : Hid (sumTo V (k + 1) = sumTo V k + V k) := rfl
      obtain ⟨d0, d1⟩ := HB.out (k + 1) (by omega)
      rw [E.out] at d0 d1
      go_wp2
      go_round
      case rel => exact ⟨k + 1, by omega, by go_num, by rw [E.out]⟩
      case measure => simp [intOf]; omega
    · obtain rfl : k = n := by omega
      go_wp2
      go_ret
      exact ⟨rfl, rfl⟩
set_option maxHeartbeats 400000 in
theorem fnShared_far (w : World) (s : Option Addr) (n c : Nat) (h : (1048576 : Int) < n) :
    Calls Try.prog 5 #[.slice s n c] w fun e w' => e = .returned (.bool true) ∧ Below w.heap.size w w' := by
  go_enter Try.func5, Try.ntmps5
  go_wp2_with fail
  refine (big_yes _ _ _ _ h).mono ?_
  rintro e w1 ⟨rfl, rfl⟩
  go_wp2
  go_ret
  exact ⟨rfl, Below.refl _ _⟩

set_option maxRecDepth 20000 in
set_option maxHeartbeats 8000000 in
theorem fnShared_near (w : World) (s : Option Addr) (n c : Nat) (hn : (n : Int) ≤ 1048576) (HC : Hid (Code8 w s n)) :
    Calls Try.prog 5 #[.slice s n c] w fun e w' => e = .returned (.bool true) ∧ Below w.heap.size w w' := by
  go_enter Try.func5, Try.ntmps5
  go_wp2_with fail
  refine (big_no _ _ _ _ hn).mono ?_
  rintro e w0 ⟨rfl, rfl⟩
  go_wp2_with fail
  refine (drawShare_any HC).mono ?_
  rintro e w1 ⟨m, t, ct, V, load, rfl, hm, R1, B1x⟩
  have HR1 : Hid (RowI w1 t (m * 2) V) := R1
  have B1 : Hid (Below w0.heap.size w0 w1) := B1x
  clear R1 HC B1x
  go_wp2_with fail
  refine (implFall_any t m ct V load _ (by omega) HR1.out).mono ?_
  rintro e w2 ⟨f, hf, rfl, h2⟩
  have HF : Hid (FV m V load f) := hf
  have HR2 : Hid (RowI w2 t (m * 2) V) := HR1.out.below h2
  have B2 : Hid (Below w0.heap.size w0 w2) := B1.out.trans (h2.mono B1.out.size)
  clear hf h2 HR1 B1
  go_wp2_with fail
  refine (specFall_any t m ct V load _ (by omega) HR2.out).mono ?_
  rintro e w3 ⟨f', hf', rfl, h3⟩
  have ef : f' = f := hf'.one HF.out
  rw [ef]
  have HR3 : Hid (RowI w3 t (m * 2) V) := HR2.out.below h3
  have B3 : Hid (Below w0.heap.size w0 w3) := B2.out.trans (h3.mono B2.out.size)
  clear ef hf' h3 HR2 B2
  go_wp2_with fail
  refine (implShare_any t m ct V load _ (by omega) HR3.out).mono ?_
  rintro e w4 ⟨q, U, sG, cG, ⟨f', hf', hc, hU⟩, rfl, OG, h4⟩
  have ef : f' = f := hf'.one HF.out
  rw [ef] at hc hU
  have HR4 : Hid (RowI w4 t (m * 2) V) := HR3.out.below h4
  have B4 : Hid (Below w0.heap.size w0 w4) := B3.out.trans (h4.mono B3.out.size)
  have HG : Hid (RowI w4 sG q U) := OG.row
  clear ef hf' h4 HR3 B3 OG
  rcases hc with ⟨f0, q0⟩ | ⟨f0, q0⟩
  · subst f0 q0
    clear hU HG
    go_wp2
    go_ret
    exact ⟨rfl, B4.out⟩
  · subst q0
    rcases HF.out with ⟨_, e⟩ | ⟨⟨m0, hu, l0, l1, l2⟩, hL⟩
    · omega
    have UA : Hid (∀ j, j < q → unitB V j = true) := units_at hu
    have f1 : f ≤ 1000000 := hL.2.1
    have LL : Hid (0 < f → allV V (f - 1) q < load) := lf_less hL
    have m1 : 0 ≤ allV V f q - load := by have := (hL.2.2 f f0 f1).2 (Int.le_refl _); omega
    have SI : Hid (∀ j, j < q → 0 ≤ U j ∧ U j ≤ V (j * 2)) := fun j hj => by rw [hU]; exact sh_in UA.out f0 f1 m1 hj
    have SE : Hid (sumTo U q = load) := by rw [hU]; exact sum_load UA.out l0 hL
    have SB : Hid (∀ k, k ≤ q → 0 ≤ sumTo U k ∧ sumTo U k ≤ 1000000000) := fun k hk => by
      have a := sum_bd (V := U) (n := q) (fun j hj => by have a := SI.out j hj; have b := unit_yes (UA.out j hj); omega) k hk
      omega
    have SU : Hid (∀ w, RowI w sG q U → Calls Try.prog 19 #[.slice sG q cG] w fun e w' => e = .returned (.int .i64 load) ∧ w' = w) := fun w R => by
      have := sum_any sG q cG U w (by omega) R SB.out
      rw [SE.out] at this
      exact this
    clear hU hL hu l2 m1 SE SB HF hm
    obtain ⟨F, hF⟩ : ∃ F, f - 1 = F := ⟨_, rfl⟩
    have F0 : -1 ≤ F := by omega
    have F1 : F ≤ 1000000 := by omega
    rw [hF] at LL
    have wF : IntKind.i64.wrap F = F := wrap_in (by omega) (by omega)
    have q50 : (q : Int) ≤ 50 := by omega
    have fn : ¬ f < 0 := by omega
    have AB : Hid (∀ k, k ≤ q → -1000 * (k : Int) ≤ allV V F k ∧ allV V F k ≤ 1000000 * k) := fun k hk => all_two F0 F1 fun j hj => UA.out j (by omega)
    go_wp2_with fail
    go_loopw [7, 8] (fun z i wr => ∃ k : Nat, k ≤ q ∧ i = .int .i64 k ∧ z = .int .i64 (allV V F k) ∧ Below w4.heap.size w4 wr) (fun _ i _ => q - (intOf i).toNat)
    case atStart => exact ⟨0, Nat.zero_le _, rfl, rfl, Below.refl _ _⟩
    case round =>
      obtain ⟨k, hk, rfl, rfl, hB⟩ := hrel
      obtain ⟨a, ha⟩ : ∃ a, allV V F k = a := ⟨_, rfl⟩
      obtain ⟨a0, a1⟩ := AB.out k hk
      have HA : Hid (allV V F k = a) := ha
      rw [ha] at a0 a1 ⊢
      clear ha
      by_cases h1 : k < q
      · obtain ⟨g, o, rfl, hg, c0⟩ := HR4.out (k * 2) (by omega)
        obtain ⟨g', o', e', hg', c1⟩ := HR4.out (k * 2 + 1) (by omega)
        cases e'
        have d0 : wr.cell? ⟨g, o + k * 2, none⟩ = some (.int .i64 (V (k * 2))) := (hB.cell (p := ⟨g, o + k * 2, none⟩) hg).trans c0
        have d1 : wr.cell? ⟨g, o + k * 2 + 1, none⟩ = some (.int .i64 (V (k * 2 + 1))) := (hB.cell (p := ⟨g, o + (k * 2 + 1), none⟩) hg).trans c1
        have k1 : (k : Int) < (q : Int) := by omega
        have zg : g < wr.heap.size := Nat.lt_of_lt_of_le hg hB.size
        have HB : Hid (Below w4.heap.size w4 wr) := hB
        have HN : Hid (k < q) := h1
        obtain ⟨u0, u1⟩ := gv_two (UA.out k h1) F0 F1
        obtain ⟨y0, y1⟩ := gv_low (UA.out k h1) F0 F1
        have E : Hid (allV V F (k + 1) = a + gvV V F k) := by rw [← HA.out]; rfl
        have GV : Hid (gvV V F k = min (V (k * 2)) (V (k * 2 + 1) * F)) := rfl
        obtain ⟨x, hx⟩ : ∃ x, V (k * 2) = x := ⟨_, rfl⟩
        obtain ⟨y, hy⟩ : ∃ y, V (k * 2 + 1) = y := ⟨_, rfl⟩
        rw [hy] at y0 y1 d1 GV
        rw [hx] at d0 GV
        obtain ⟨p, hp⟩ : ∃ p, y * F = p := ⟨_, rfl⟩
        rw [hp] at y0 y1 GV
        obtain ⟨v, hv⟩ : ∃ v, (if p < x then p else x) = v := ⟨_, rfl⟩
        have EG : gvV V F k = v := by rw [GV.out, ← hv]; split <;> omega
        rw [EG] at u0 u1 E
        obtain ⟨b, hb⟩ : ∃ b, a + v = b := ⟨_, rfl⟩
        have EB : Hid (allV V F (k + 1) = b) := E.out.trans hb
        have wp : IntKind.i64.wrap p = p := wrap_in (by omega) (by omega)
        have wb : IntKind.i64.wrap b = b := wrap_in (by omega) (by omega)
        clear hB c0 c1 hg hg' E EG GV h1 hx hy
        go_wp2_with fail
        go_region
        all_goals
          go_wp2
          go_roundw
          case rel => exact ⟨k + 1, by have := HN.out; omega, by go_num, by rw [EB.out], by have BQ := HB.out; exact (by repeat (first | with_reducible exact Below.refl _ _ | with_reducible exact BQ | with_reducible refine Below.setCell ?_ (by first | omega | (simp; done) | (simp; omega)) _ | with_reducible refine bDrewN ?_ _ | with_reducible refine Below.drew ?_ | with_reducible refine Below.alloc ?_ (by first | omega | (simp; done) | (simp; omega)) _))⟩
          case measure => have := HN.out; simp [intOf]; omega
      · obtain rfl : k = q := by omega
        rename World => w5
        have HR5 : Hid (RowI w5 t (k * 2) V) := HR4.out.below hB
        have HG5 : Hid (RowI w5 sG k U) := HG.out.below hB
        have B5 : Hid (Below w0.heap.size w0 w5) := B4.out.trans (hB.mono B4.out.size)
        clear hB HR4 HG B4 h1
        by_cases fp : 0 < f
        · have la : a < load := by have := LL.out fp; have := HA.out; omega
          have lb : ¬ load ≤ a := by omega
          have al : True := trivial
          go_wp2_with fail
          go_loopw [9] (fun i wq => ∃ j : Nat, j ≤ k ∧ i = .int .i64 j ∧ Below w5.heap.size w5 wq) (fun i _ => k - (intOf i).toNat)
          case atStart => exact ⟨0, Nat.zero_le _, rfl, Below.refl _ _⟩
          case round =>
            obtain ⟨j, hj, rfl, hB⟩ := hrel
            have HB : Hid (Below w5.heap.size w5 wr) := hB
            by_cases h2 : j < k
            · obtain ⟨g, o, rfl, hg, c0⟩ := HR5.out (j * 2) (by omega)
              obtain ⟨g', o', rfl, hg', c1⟩ := HG5.out j h2
              have d0 : wr.cell? ⟨g, o + j * 2, none⟩ = some (.int .i64 (V (j * 2))) := (hB.cell (p := ⟨g, o + j * 2, none⟩) hg).trans c0
              have d1 : wr.cell? ⟨g', o' + j, none⟩ = some (.int .i64 (U j)) := (hB.cell (p := ⟨g', o' + j, none⟩) hg').trans c1
              have k1 : (j : Int) < (k : Int) := by omega
              have zg : g < wr.heap.size := Nat.lt_of_lt_of_le hg hB.size
              have zg' : g' < wr.heap.size := Nat.lt_of_lt_of_le hg' hB.size
              obtain ⟨s0, s1⟩ := SI.out j h2
              obtain ⟨u, hu⟩ : ∃ u, U j = u := ⟨_, rfl⟩
              obtain ⟨x, hx⟩ : ∃ x, V (j * 2) = x := ⟨_, rfl⟩
              rw [hu] at d1 s0 s1
              rw [hx] at d0 s1
              have t0 : decide (u < 0) = false := by simp; omega
              have t1 : decide (x < u) = false := by simp; omega
              have HN : Hid (j < k) := h2
              clear hB c0 c1 hg hg' h2 hu hx
              go_wp2_with fail
              go_quiet (fail)
              go_wp2
              go_round
              case rel => exact ⟨j + 1, by have := HN.out; omega, by go_num, by have BQ := HB.out; exact (by repeat (first | with_reducible exact Below.refl _ _ | with_reducible exact BQ | with_reducible refine Below.setCell ?_ (by first | omega | (simp; done) | (simp; omega)) _ | with_reducible refine bDrewN ?_ _ | with_reducible refine Below.drew ?_ | with_reducible refine Below.alloc ?_ (by first | omega | (simp; done) | (simp; omega)) _))⟩
              case measure => have := HN.out; simp [intOf]; omega
            · obtain rfl : j = k := by omega
              have HG6 : Hid (RowI wr sG j U) := HG5.out.below hB
              have B6 : Hid (Below w0.heap.size w0 wr) := B5.out.trans (hB.mono B5.out.size)
              clear hB HB
              go_wp2_with fail
              refine (SU.out _ HG6.out).mono ?_
              rintro e w7 ⟨rfl, rfl⟩
              go_wp2
              go_ret
              exact ⟨by simp, B6.out⟩
        · have fz : f ≤ 0 := by omega
          have al : True := trivial
          go_wp2_with fail
          go_loopw [9] (fun i wq => ∃ j : Nat, j ≤ k ∧ i = .int .i64 j ∧ Below w5.heap.size w5 wq) (fun i _ => k - (intOf i).toNat)
          case atStart => exact ⟨0, Nat.zero_le _, rfl, Below.refl _ _⟩
          case round =>
            obtain ⟨j, hj, rfl, hB⟩ := hrel
            have HB : Hid (Below w5.heap.size w5 wr) := hB
            by_cases h2 : j < k
            · obtain ⟨g, o, rfl, hg, c0⟩ := HR5.out (j * 2) (by omega)
              obtain ⟨g', o', rfl, hg', c1⟩ := HG5.out j h2
              have d0 : wr.cell? ⟨g, o + j * 2, none⟩ = some (.int .i64 (V (j * 2))) := (hB.cell (p := ⟨g, o + j * 2, none⟩) hg).trans c0
              have d1 : wr.cell? ⟨g', o' + j, none⟩ = some (.int .i64 (U j)) := (hB.cell (p := ⟨g', o' + j, none⟩) hg').trans c1
              have k1 : (j : Int) < (k : Int) := by omega
              have zg : g < wr.heap.size := Nat.lt_of_lt_of_le hg hB.size
              have zg' : g' < wr.heap.size := Nat.lt_of_lt_of_le hg' hB.size
              obtain ⟨s0, s1⟩ := SI.out j h2
              obtain ⟨u, hu⟩ : ∃ u, U j = u := ⟨_, rfl⟩
              obtain ⟨x, hx⟩ : ∃ x, V (j * 2) = x := ⟨_, rfl⟩
              rw [hu] at d1 s0 s1
              rw [hx] at d0 s1
              have t0 : decide (u < 0) = false := by simp; omega
              have t1 : decide (x < u) = false := by simp; omega
              have HN : Hid (j < k) := h2
              clear hB c0 c1 hg hg' h2 hu hx
              go_wp2_with fail
              go_quiet (fail)
              go_wp2
              go_round
              case rel => exact ⟨j + 1, by have := HN.out; omega, by go_num, by have BQ := HB.out; exact (by repeat (first | with_reducible exact Below.refl _ _ | with_reducible exact BQ | with_reducible refine Below.setCell ?_ (by first | omega | (simp; done) | (simp; omega)) _ | with_reducible refine bDrewN ?_ _ | with_reducible refine Below.drew ?_ | with_reducible refine Below.alloc ?_ (by first | omega | (simp; done) | (simp; omega)) _))⟩
              case measure => have := HN.out; simp [intOf]; omega
            · obtain rfl : j = k := by omega
              have HG6 : Hid (RowI wr sG j U) := HG5.out.below hB
              have B6 : Hid (Below w0.heap.size w0 wr) := B5.out.trans (hB.mono B5.out.size)
              clear hB HB
              go_wp2_with fail
              refine (SU.out _ HG6.out).mono ?_
              rintro e w7 ⟨rfl, rfl⟩
              go_wp2
              go_ret
              exact ⟨by simp, B6.out⟩

theorem fnShared_walk (w : World) (s : Option Addr) (n c : Nat) (hn : n ≤ 9223372036854775807) (R : Bytes w s n) :
    Calls Try.prog 5 #[.slice s n c] w fun e w' => e = .returned (.bool true) ∧ Below w.heap.size w w' := by
  by_cases h : n ≤ 1048576
  · exact fnShared_near w s n c (by omega) (R.code h)
  · exact fnShared_far w s n c (by omega)

set_option maxRecDepth 100000 in
theorem fnShared_lifted (os : Os) (started : os.Started) (H : Type) (enc : TypeId × Value → H) :
    ReturnsInHanded {} Try.checked os 5 .any (Rows.fnSharedSpec.pre6 enc Try.prog Try.f5 Rows.fnSharedRow.domain false) (Rows.fnSharedSpec.post enc Try.prog Try.f5 false true false false) := by
  refine returnsInHanded_of_change (C := Try.checked) own started (by kernel_rfl) Try.func5
    (ChangeSpec.witness6 (enc := enc) (C := Try.checked) false ⟨#[], #[.slice none 0 0], []⟩ 8 (by kernel_rfl) (by kernel_rfl) (by kernel_rfl) (by kernel_rfl)) ?_
  intro W base args ds gs before hval0 hW hcnd _
  have hval : ∀ (j : Nat) t v, Try.f5.params[j]? = some t → args[j]? = some v → Value.okWide Try.prog W .any base t v := hval0
  have hW' := hW
  obtain ⟨p, q, hA0, hV, rfl, hfz, hnd⟩ := hW
  have hA : DataW.TrodAll enc Try.prog W 0 (fun _ => true) true Try.f5.params.toList args.toList ds p := hA0
  rw [Try.params5] at hA hval
  obtain ⟨v0, vs0, d0, ds0, p0, q0, hargs, rfl, rfl, h0, r0⟩ := trodAll_cons hA
  obtain ⟨rfl, rfl, rfl⟩ := trodAll_nil r0
  obtain rfl : args = #[v0] := by cases args; simp_all
  obtain ⟨rfl, rfl⟩ := trodVars_none hV
  have k0 := h0
  have lt0 : ∀ x ∈ p0, x.block < W.heap.size := by obtain ⟨m, hm⟩ := k0; exact DataW.trod_lt m _ _ _ hm
  obtain ⟨s0, n0, c0, rfl, m0, R0⟩ := open_code Try.underlying34 Try.underlying5 (by kernel_rfl) (hval 0 34 v0 rfl rfl) h0
  clear hA0 hval0
  refine (fnShared_walk W s0 n0 c0 m0 R0).mono fun e W' ⟨he, bel⟩ => ?_
  subst he
  exact ⟨_, rfl, _, _, _, [], _, [], hW', trodAll_mk1 (shut_bool Try.underlying4 _), (trodAll_cons_mk (Below.trod laidOut (by kernel_rfl) (of_decide_eq_true (by kernel_rfl)) k0 bel lt0) trodAll_mk0), rfl, bel.frame _, fun h => by cases h⟩

theorem fnShared_holds : Rows.FnSharedSaid :=
  OpenClaim.holds_of_wide 5 Try.f5 rfl rfl rfl rfl rfl rfl rfl ⟨rfl, rfl, rfl, rfl, rfl⟩ rfl rfl rfl rfl rfl (by kernel_rfl) Try.func5 (by kernel_rfl)
    (of_decide_eq_true (by kernel_rfl)) (by unfold Func.isWrapper; first | (rw [if_pos (by decide +kernel)]; kernel_rfl) | (rw [if_neg (by decide +kernel)]; exact ⟨rfl, rfl⟩))
    (fun os started H enc _ => fnShared_lifted os started H enc)
#print axioms fnShared_holds
end Go.Proofs.Ytgekkblfnfclmaa
