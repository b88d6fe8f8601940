/-
What is proved: what is left of machines that are drawn from any code takes at most what may be taken; with the last one that was cut off it would take more; both packages cut off the same; no condition.
-/
import Derived.Test.YtcialcejmjggeaaShdL
import Derived.Test.YtcialcejmjggeaaShdI
import Derived.Test.YtcialcejmjggeaaShdS
import Derived.Test.YtcialcejmjggeaaLdS
import Derived.Test.YtcialcejmjggeaaMhE
import Derived.Test.YtcialcejmjggeaaSaI
import Derived.Test.YtcialcejmjggeaaHasA
import Derived.Test.YtcialcejmjggeaaOpen8
import Derived.Deep.RegionHeldLaw

namespace Go.Proofs.Ytcialcejmjggeaa
set_option maxRecDepth 40000
open Go.ChangeShapes Go.WideShapes Go.ChangeAt Go.RowKit
set_option linter.unusedVariables false
set_option linter.unusedSimpArgs false

set_option maxHeartbeats 400000 in
theorem shed_far (w : World) (s : Option Addr) (n c : Nat) (h : (1048576 : Int) < n) :
    Calls Try.prog 5 #[.slice s n c] w fun e w' => e = .returned (.bool true) ∧ Below w.heap.size w w' := by
  go_enter Try.func5, Try.ntmps5
  go_wp2_with fail
  refine (big_yes _ _ _ _ h).mono ?_
  rintro e w1 ⟨rfl, rfl⟩
  go_wp2
  go_ret
  exact ⟨rfl, Below.refl _ _⟩
set_option maxRecDepth 20000 in
set_option maxHeartbeats 16000000 in
theorem shed_near (w : World) (s : Option Addr) (n c : Nat) (hn : (n : Int) ≤ 1048576) (HC8 : Hid (Code8 w s n)) :
    Calls Try.prog 5 #[.slice s n c] w fun e w' => e = .returned (.bool true) ∧ Below w.heap.size w w' := by
  go_enter Try.func5, Try.ntmps5
  go_wp2_with fail
  refine (big_no _ _ _ _ hn).mono ?_
  rintro e w1 ⟨rfl, rfl⟩
  rename World => w
  go_wp2_with fail
  refine (drawShed_any HC8).mono ?_
  rintro e w2 h2
  unfold DmsPost at h2
  obtain ⟨t, m, cap, U, mo, rfl, m61, R2, B2⟩ := h2
  have HR : Hid (RowI w2 t (m * 4) U) := R2
  have HB : Hid (Below w.heap.size w w2) := B2
  have m5 : (m : Int) ≤ 1048576 := by omega
  clear R2 B2
  go_wp2_with fail
  refine (specShed_any t m cap U mo w2 m5 HR.out).mono ?_
  rintro e w3 ⟨s5, c5, rfl, O5, b3⟩
  have HW : Hid (RowI w3 s5 (shdN m U mo) (fun j => shU U m j)) := O5.row
  replace HR : Hid (RowI w3 t (m * 4) U) := HR.out.below b3
  replace HB : Hid (Below w.heap.size w w3) := HB.out.trans (b3.mono HB.out.size)
  clear O5 b3
  go_wp2_with fail
  refine (implShed_any t m cap U mo w3 m5 HR.out).mono ?_
  rintro e w4 ⟨s6, c6, rfl, O6, b4⟩
  have HO : Hid (RowI w4 s6 (shdN m U mo) (fun j => shU U m j)) := O6.row
  replace HW : Hid (RowI w4 s5 (shdN m U mo) (fun j => shU U m j)) := HW.out.below b4
  replace HR : Hid (RowI w4 t (m * 4) U) := HR.out.below b4
  replace HB : Hid (Below w.heap.size w w4) := HB.out.trans (b4.mono HB.out.size)
  have kle := shd_le m U mo
  have HSI : Hid (machsB m U = true → 0 ≤ mo → (∀ i, i < shdN m U mo → mo < runG U (shG U m i) m) ∧ runG U (shG U m (shdN m U mo)) m ≤ mo) := fun a b => shd_is a b
  obtain ⟨k, hk⟩ : ∃ k, shdN m U mo = k := ⟨_, rfl⟩
  rw [hk] at HO HW kle HSI ⊢
  clear O6 b4 hk
  have k5 : (k : Int) ≤ 1048576 := by omega
  go_wp2_with fail
  refine (sameInts_any s6 s5 k c6 c5 _ w4 k5 HO HW).mono ?_
  rintro e w5 ⟨rfl, b5⟩
  replace HO : Hid (RowI w5 s6 k (fun j => shU U m j)) := HO.out.below b5
  replace HR : Hid (RowI w5 t (m * 4) U) := HR.out.below b5
  replace HB : Hid (Below w.heap.size w w5) := HB.out.trans (b5.mono HB.out.size)
  clear b5 HW
  go_wp2_with fail
  refine (specLoading_any t m cap U 1 w5 m5 HR.out).mono ?_
  rintro e w6 ⟨s7, c7, rfl, -, b6⟩
  replace HO : Hid (RowI w6 s6 k (fun j => shU U m j)) := HO.out.below b6
  replace HR : Hid (RowI w6 t (m * 4) U) := HR.out.below b6
  replace HB : Hid (Below w.heap.size w w6) := HB.out.trans (b6.mono HB.out.size)
  clear b6
  cases hb : ldB U m 1
  · have hB := HB.out
    clear hb
    go_wp2
    go_ret
    exact ⟨rfl, (by repeat (first | with_reducible exact Below.refl _ _ | with_reducible exact hB | with_reducible refine Below.setCell ?_ (by first | omega | (simp; done) | (simp; omega)) _ | with_reducible refine bDrewN ?_ _ | with_reducible refine Below.drew ?_ | with_reducible refine Below.alloc ?_ (by first | omega | (simp; done) | (simp; omega)) _))⟩
  by_cases h0 : mo < 0
  · have hB := HB.out
    clear hb
    go_wp2
    go_ret
    exact ⟨rfl, (by repeat (first | with_reducible exact Below.refl _ _ | with_reducible exact hB | with_reducible refine Below.setCell ?_ (by first | omega | (simp; done) | (simp; omega)) _ | with_reducible refine bDrewN ?_ _ | with_reducible refine Below.drew ?_ | with_reducible refine Below.alloc ?_ (by first | omega | (simp; done) | (simp; omega)) _))⟩
  have p0 : 0 ≤ mo := by omega
  have hm : machsB m U = true := by
    unfold ldB at hb
    cases q : machsB m U
    · rw [q] at hb; simp at hb
    · rfl
  have HMS : Hid (machsB m U = true) := hm
  have n60 : m ≤ 60 := (machs_yes hm).1
  have HM : Hid (∀ j, j < m → machB U j = true) := (machs_yes hm).2
  have HS1 : Hid (∀ i, i < k → mo < runG U (shG U m i) m) := (HSI.out hm p0).1
  have HS2 : Hid (runG U (shG U m k) m ≤ mo) := (HSI.out hm p0).2
  have HLL : Hid (RowI w6 s6 (shL U m k).length (fun j => (shL U m k).getD j 0)) := by
    show RowI _ _ _ _
    rw [shL_len]
    exact HO.out.congr fun j hj => (shL_at U m k hj).symm
  have HLE : Hid ((shL U m k).length = k) := shL_len U m k
  clear hb hm HSI
  go_wp2_with fail
  go_loopw [9, 10] (fun lv iv wx => ∃ i : Nat, i ≤ m ∧ iv = .int .i64 i ∧ lv = .int .i64 (runG U (shG U m k) i) ∧ wx = w6) (fun _ iv _ => m - (intOf iv).toNat)
  case atStart => exact ⟨0, Nat.zero_le _, rfl, rfl, rfl⟩
  case round =>
    obtain ⟨i, hi, rfl, rfl, rfl⟩ := hrel
    have pb := run_bd (V := U) (G := shG U m k) n60 hi HM.out
    by_cases h1 : i < m
    case pos =>
      have k1 : (i : Int) < (m : Int) := by omega
      obtain ⟨⟨vb0, vb1⟩, -, -, -⟩ := machV_yes (HM.out i h1)
      obtain ⟨g, o, rfl, hg, c0⟩ := HR.out (i * 4) (by omega)
      have HME : Hid (decide ((i : Int) ∈ shL U m k) = shG U m k i) := shL_mem U m k i
      have E0 : Hid (∀ b, shG U m k i = b → runG U (shG U m k) (i + 1) = runG U (shG U m k) i + if b then 0 else U (i * 4)) := fun b hb => by
        show runG U (shG U m k) i + (if shG U m k i then _ else _) = _
        rw [hb]
      have HHA := has_any s6 (shL U m k) c6 (i : Int) wr (by rw [HLE.out]; omega) HLL
      rw [HLE.out, HME.out] at HHA
      have HH : Hid (Calls Try.prog 22 #[.slice s6 k c6, .int .i64 (i : Int)] wr fun e w' => e = .returned (.bool (shG U m k i)) ∧ w' = wr) := HHA
      clear HHA
      obtain ⟨p, hp⟩ : ∃ p, runG U (shG U m k) i = p := ⟨_, rfl⟩
      rw [hp] at pb E0 ⊢
      clear hp
      have ew : IntKind.i64.wrap (p + U (i * 4)) = p + U (i * 4) := by rw [IntKind.wrap_i64]; omega
      go_wp2_with fail
      refine HH.out.mono ?_
      rintro e wz ⟨rfl, e5⟩
      subst e5
      cases hb : shG U m k i
      · have E1 := E0.out false hb
        have E2 : Hid (runG U (shG U m k) (i + 1) = p + U (i * 4)) := E1
        clear E1 E0 hb HH HME
        go_wp2
        go_roundw
        case rel => exact ⟨i + 1, by omega, by go_num, by rw [E2.out], by first | rfl | trivial⟩
        case measure => simp [intOf]; omega
      · have E1 := E0.out true hb
        have E2 : Hid (runG U (shG U m k) (i + 1) = p) := by show _ = _; simpa using E1
        clear E1 E0 hb HH HME
        go_wp2
        go_roundw
        case rel => exact ⟨i + 1, by omega, by go_num, by rw [E2.out], by first | rfl | trivial⟩
        case measure => simp [intOf]; omega
    obtain rfl : i = m := by omega
    have hs2 : runG U (shG U i k) i ≤ mo := HS2.out
    have hB := HB.out
    by_cases hk : k = 0
    · obtain ⟨p, hp⟩ : ∃ p, runG U (shG U i k) i = p := ⟨_, rfl⟩
      rw [hp] at hs2 pb ⊢
      clear hp
      have k00 : (k : Int) = 0 := by omega
      clear HLL HLE HS1 HS2
      go_wp2
      go_ret
      exact ⟨rfl, (by repeat (first | with_reducible exact Below.refl _ _ | with_reducible exact hB | with_reducible refine Below.setCell ?_ (by first | omega | (simp; done) | (simp; omega)) _ | with_reducible refine bDrewN ?_ _ | with_reducible refine Below.drew ?_ | with_reducible refine Below.alloc ?_ (by first | omega | (simp; done) | (simp; omega)) _))⟩
    obtain ⟨j, rfl⟩ : ∃ z, k = z + 1 := ⟨k - 1, by omega⟩
    obtain ⟨b, eu, hb, -, hrun, -⟩ := sh_best (V := U) (n := i) (j := j) p0 HM.out (fun q hq => HS1.out q (by omega)) (HS1.out j (by omega))
    have hgt := HS1.out j (by omega)
    obtain ⟨⟨vb0, vb1⟩, -, -, -⟩ := machV_yes (HM.out b hb)
    obtain ⟨gl, ol, rfl, hgl, cl⟩ := HO.out j (by omega)
    simp only [eu] at cl
    obtain ⟨g, o, rfl, hg, c0⟩ := HR.out (b * 4) (by omega)
    have kb : (b : Int) < (i : Int) := by omega
    have hsum : mo < runG U (shG U i (j + 1)) i + U (b * 4) := by omega
    obtain ⟨p, hp⟩ : ∃ p, runG U (shG U i (j + 1)) i = p := ⟨_, rfl⟩
    rw [hp] at hs2 pb hsum hrun ⊢
    clear hp hrun hgt eu
    have e1 : ((j + 1 : Nat) : Int) - 1 = (j : Int) := by omega
    have e2 : (((j + 1 : Nat) : Int) == 0) = false := by simp; omega
    obtain ⟨N, hN⟩ : ∃ z : Nat, z = j + 1 := ⟨_, rfl⟩
    rw [← hN] at e1 e2 ⊢
    have kj : (j : Int) < (N : Int) := by omega
    have HNN : Hid (N = j + 1) := hN
    have e3 : ¬ (N : Int) = 0 := by omega
    have jb : (j : Int) < 100 := by omega
    have ej : IntKind.i64.wrap (j : Int) = (j : Int) := by rw [IntKind.wrap_i64]; omega
    have ej2 : wrap64 (j : Int) = (j : Int) := by unfold wrap64; omega
    clear hN HLL HLE HS1 HS2 HO kle k5 hk
    have ew : IntKind.i64.wrap (p + U (b * 4)) = p + U (b * 4) := by rw [IntKind.wrap_i64]; omega
    go_wp2
    go_ret
    exact ⟨by first | rfl | (simp; omega), (by repeat (first | with_reducible exact Below.refl _ _ | with_reducible exact hB | with_reducible refine Below.setCell ?_ (by first | omega | (simp; done) | (simp; omega)) _ | with_reducible refine bDrewN ?_ _ | with_reducible refine Below.drew ?_ | with_reducible refine Below.alloc ?_ (by first | omega | (simp; done) | (simp; omega)) _))⟩
theorem fnShed_walk (w : World) (s : Option Addr) (n c : Nat) (hn : n ≤ 9223372036854775807) (R : Bytes w s n) :
    Calls Try.prog 5 #[.slice s n c] w fun e w' => e = .returned (.bool true) ∧ Below w.heap.size w w' := by
  by_cases h : n ≤ 1048576
  · exact shed_near w s n c (by omega) (R.code h)
  · exact shed_far w s n c (by omega)

set_option maxRecDepth 100000 in
theorem fnShed_lifted (os : Os) (started : os.Started) (H : Type) (enc : TypeId × Value → H) :
    ReturnsInHanded {} Try.checked os 5 .any (Rows.fnShedSpec.pre6 enc Try.prog Try.f5 Rows.fnShedRow.domain false) (Rows.fnShedSpec.post enc Try.prog Try.f5 false true false false) := by
  refine returnsInHanded_of_change (C := Try.checked) own started (by kernel_rfl) Try.func5
    (ChangeSpec.witness6 (enc := enc) (C := Try.checked) false ⟨#[], #[.slice none 0 0], []⟩ 8 (by kernel_rfl) (by kernel_rfl) (by kernel_rfl) (by kernel_rfl)) ?_
  intro W base args ds gs before hval0 hW hcnd _
  have hval : ∀ (j : Nat) t v, Try.f5.params[j]? = some t → args[j]? = some v → Value.okWide Try.prog W .any base t v := hval0
  have hW' := hW
  obtain ⟨p, q, hA0, hV, rfl, hfz, hnd⟩ := hW
  have hA : DataW.TrodAll enc Try.prog W 0 (fun _ => true) true Try.f5.params.toList args.toList ds p := hA0
  rw [Try.params5] at hA hval
  obtain ⟨v0, vs0, d0, ds0, p0, q0, hargs, rfl, rfl, h0, r0⟩ := trodAll_cons hA
  obtain ⟨rfl, rfl, rfl⟩ := trodAll_nil r0
  obtain rfl : args = #[v0] := by cases args; simp_all
  obtain ⟨rfl, rfl⟩ := trodVars_none hV
  have k0 := h0
  have lt0 : ∀ x ∈ p0, x.block < W.heap.size := by obtain ⟨m, hm⟩ := k0; exact DataW.trod_lt m _ _ _ hm
  obtain ⟨s0, n0, c0, rfl, m0, R0⟩ := open_code Try.underlying35 Try.underlying5 (by kernel_rfl) (hval 0 35 v0 rfl rfl) h0
  clear hA0 hval0
  refine (fnShed_walk W s0 n0 c0 m0 R0).mono fun e W' ⟨he, bel⟩ => ?_
  subst he
  exact ⟨_, rfl, _, _, _, [], _, [], hW', trodAll_mk1 (shut_bool Try.underlying4 _), (trodAll_cons_mk (Below.trod laidOut (by kernel_rfl) (of_decide_eq_true (by kernel_rfl)) k0 bel lt0) trodAll_mk0), rfl, bel.frame _, fun h => by cases h⟩

theorem fnShed_holds : Rows.FnShedSaid :=
  OpenClaim.holds_of_wide 5 Try.f5 rfl rfl rfl rfl rfl rfl rfl ⟨rfl, rfl, rfl, rfl, rfl⟩ rfl rfl rfl rfl rfl (by kernel_rfl) Try.func5 (by kernel_rfl)
    (of_decide_eq_true (by kernel_rfl)) (by unfold Func.isWrapper; first | (rw [if_pos (by decide +kernel)]; kernel_rfl) | (rw [if_neg (by decide +kernel)]; exact ⟨rfl, rfl⟩))
    (fun os started H enc _ => fnShed_lifted os started H enc)
#print axioms fnShed_holds
end Go.Proofs.Ytcialcejmjggeaa
