/-
What is proved: at every map and every two lists of readings impl.Surges answers as the specification's Surges, and leaves the map and the lists alone; no condition.
-/
import Derived.Test.YtnijliidehgglaaMapS
import Derived.Test.YtnijliidehgglaaMapE
import Derived.Test.YtnijliidehgglaaMapO
import Derived.Test.YtnijliidehgglaaI64C
import Derived.Test.YtnijliidehgglaaOpenI
namespace Go.Proofs.Ytnijliidehgglaa
set_option maxRecDepth 40000
open Go.ChangeShapes Go.WideShapes Go.ChangeAt Go.RowKit
set_option linter.unusedVariables false
set_option linter.unusedSimpArgs false

theorem specSurges_any (s : Option Addr) (n c : Nat) (S : Nat → Int) (K : Nat → Nat) (V : Nat → Nat → Int) (s1 : Option Addr) (n1 c1 : Nat) (P : Nat → Int) (s2 : Option Addr) (n2 c2 : Nat) (F : Nat → Int) (G : Int → Option Nat) (hG : ∀ x, MapV n S K V x (surgeF V) (G x)) (w : World) (HR : MapR w s n S K V) (H1 : RowI w s1 n1 P) (H2 : RowI w s2 n2 F) :
    Calls Try.prog 20 #[.slice s n c, .slice s1 n1 c1, .slice s2 n2 c2] w fun e w' => e = .returned (.int .i64 (surgesI G P F n1 n2)) ∧ Below w.heap.size w w' := by
  by_cases q : n1 = n2 ∧ n1 ≤ 400
  · have e1 : surgesI G P F n1 n2 = firstI (surgeP G P F) 0 n1 := by unfold surgesI; rw [if_pos q]
    rw [e1]
    obtain ⟨rfl, q2⟩ := q
    exact specSurges_go s n c S K V s1 n1 c1 P s2 c2 F G w (by omega) HR H1 H2 (fun x w h => (specSurgeAt_any s n c S K V x w h).mono fun e w' ⟨⟨r, o, h0, h1, h2⟩, m, h3⟩ => ⟨r, h1, by rw [(hG x).one h0]; exact h2, by rw [h3]; exact bDrewN (Below.refl _ _) _⟩)
  · have e1 : surgesI G P F n1 n2 = -1 := by unfold surgesI; rw [if_neg q]
    rw [e1]
    exact specSurges_no s n c s1 n1 c1 s2 n2 c2 w (by omega)
theorem implSurges_any (s : Option Addr) (n c : Nat) (S : Nat → Int) (K : Nat → Nat) (V : Nat → Nat → Int) (s1 : Option Addr) (n1 c1 : Nat) (P : Nat → Int) (s2 : Option Addr) (n2 c2 : Nat) (F : Nat → Int) (G : Int → Option Nat) (hG : ∀ x, MapV n S K V x (surgeF V) (G x)) (w : World) (HR : MapR w s n S K V) (H1 : RowI w s1 n1 P) (H2 : RowI w s2 n2 F) :
    Calls Try.prog 22 #[.slice s n c, .slice s1 n1 c1, .slice s2 n2 c2] w fun e w' => e = .returned (.int .i64 (surgesI G P F n1 n2)) ∧ Below w.heap.size w w' := by
  by_cases q : n1 = n2 ∧ n1 ≤ 400
  · have e1 : surgesI G P F n1 n2 = firstI (surgeP G P F) 0 n1 := by unfold surgesI; rw [if_pos q]
    rw [e1]
    obtain ⟨rfl, q2⟩ := q
    exact implSurges_go s n c S K V s1 n1 c1 P s2 c2 F G w (by omega) HR H1 H2 (fun x w h => (implSurgeAt_any s n c S K V x w h).mono fun e w' ⟨r, o, h0, h1, h2, h3⟩ => ⟨r, h1, by rw [(hG x).one h0]; exact h2, h3⟩)
  · have e1 : surgesI G P F n1 n2 = -1 := by unfold surgesI; rw [if_neg q]
    rw [e1]
    exact implSurges_no s n c s1 n1 c1 s2 n2 c2 w (by omega)
set_option maxRecDepth 20000 in
set_option maxHeartbeats 4000000 in
theorem surges_near (w : World) (s : Option Addr) (n c : Nat) (S : Nat → Int) (K : Nat → Nat) (V : Nat → Nat → Int) (s1 : Option Addr) (n1 c1 : Nat) (P : Nat → Int) (s2 : Option Addr) (n2 c2 : Nat) (F : Nat → Int) (r : Int) (hn : (n : Int) ≤ 1048576) (hn1 : (n1 : Int) ≤ 1048576) (hn2 : (n2 : Int) ≤ 1048576) (hK : Hid (∀ j, j < n → (K j : Int) ≤ 9223372036854775807)) (HR : Hid (MapR w s n S K V)) (HP : Hid (RowI w s1 n1 P)) (HF : Hid (RowI w s2 n2 F))
    (H1 : Hid (∀ s c s1 c1 s2 c2 w, MapR w s n S K V → RowI w s1 n1 P → RowI w s2 n2 F → Calls Try.prog 20 #[.slice s n c, .slice s1 n1 c1, .slice s2 n2 c2] w fun e w' => e = .returned (.int .i64 r) ∧ Below w.heap.size w w'))
    (H2 : Hid (∀ s c s1 c1 s2 c2 w, MapR w s n S K V → RowI w s1 n1 P → RowI w s2 n2 F → Calls Try.prog 22 #[.slice s n c, .slice s1 n1 c1, .slice s2 n2 c2] w fun e w' => e = .returned (.int .i64 r) ∧ Below w.heap.size w w')) :
    Calls Try.prog 7 #[.slice s n c, .slice s1 n1 c1, .slice s2 n2 c2] w fun e w' => e = .returned (.bool true) ∧ Below w.heap.size w w' := by
  go_enter Try.func7, Try.ntmps7
  go_wp2_with fail
  refine (szLines_near s n c S K V _ hn hK HR.out).mono ?_
  rintro e w1 ⟨hsz, B0⟩
  rcases hsz with rfl | ⟨z, z0, rfl, hk⟩
  · go_wp2
    go_ret
    exact ⟨rfl, B0⟩
  have HK : Hid (∀ j, j < n → (K j : Int) ≤ 1048576) := hk
  clear hk
  have HW : Hid (∀ W, Below w.heap.size w W → MapR W s n S K V) := fun W h => HR.out.below h
  have HU : Hid (∀ W, Below w.heap.size w W → RowI W s1 n1 P) := fun W h => HP.out.below h
  have HY : Hid (∀ W, Below w.heap.size w W → RowI W s2 n2 F) := fun W h => HF.out.below h
  go_wp2_with fail
  refine (toSpeedLineS_any s n c S K V _ hn HK.out (HW.out _ B0)).mono ?_
  rintro e w2 ⟨ba, rfl, Ra, h⟩
  replace B0 : Below w.heap.size w w2 := B0.trans (h.mono B0.size)
  clear h
  have Pa : Hid (MapR w2 (some ⟨ba, 0, none⟩) n S K V) := Ra
  clear Ra
  go_wp2_with fail
  refine (toInt64S_any s1 n1 c1 P _ hn1 (HU.out _ B0)).mono ?_
  rintro e w3 ⟨rfl, -, O, h⟩
  replace B0 : Below w.heap.size w w3 := B0.trans (h.mono B0.size)
  replace Pa : Hid (MapR w3 (some ⟨ba, 0, none⟩) n S K V) := Pa.out.below h
  clear h
  have Pa1 : Hid (RowI w3 (some ⟨w2.heap.size, 0, none⟩) n1 P) := O.row
  clear O
  go_wp2_with fail
  refine (toInt64S_any s2 n2 c2 F _ hn2 (HY.out _ B0)).mono ?_
  rintro e w4 ⟨rfl, -, O, h⟩
  replace B0 : Below w.heap.size w w4 := B0.trans (h.mono B0.size)
  replace Pa : Hid (MapR w4 (some ⟨ba, 0, none⟩) n S K V) := Pa.out.below h
  replace Pa1 : Hid (RowI w4 (some ⟨w2.heap.size, 0, none⟩) n1 P) := Pa1.out.below h
  clear h
  have Pa2 : Hid (RowI w4 (some ⟨w3.heap.size, 0, none⟩) n2 F) := O.row
  clear O
  go_wp2_with fail
  refine (H1.out _ _ _ _ _ _ _ Pa.out Pa1.out Pa2.out).mono ?_
  rintro e w5 ⟨rfl, h⟩
  clear Pa
  clear Pa1
  clear Pa2
  replace B0 : Below w.heap.size w w5 := B0.trans (h.mono B0.size)
  clear h
  go_wp2_with fail
  refine (toSpeedLineS_any s n c S K V _ hn HK.out (HW.out _ B0)).mono ?_
  rintro e w6 ⟨bx, rfl, Rx, h⟩
  replace B0 : Below w.heap.size w w6 := B0.trans (h.mono B0.size)
  clear h
  have Px : Hid (MapR w6 (some ⟨bx, 0, none⟩) n S K V) := Rx
  clear Rx
  go_wp2_with fail
  refine (toInt64S_any s1 n1 c1 P _ hn1 (HU.out _ B0)).mono ?_
  rintro e w7 ⟨rfl, -, O, h⟩
  replace B0 : Below w.heap.size w w7 := B0.trans (h.mono B0.size)
  replace Px : Hid (MapR w7 (some ⟨bx, 0, none⟩) n S K V) := Px.out.below h
  clear h
  have Px1 : Hid (RowI w7 (some ⟨w6.heap.size, 0, none⟩) n1 P) := O.row
  clear O
  go_wp2_with fail
  refine (toInt64S_any s2 n2 c2 F _ hn2 (HY.out _ B0)).mono ?_
  rintro e w8 ⟨rfl, -, O, h⟩
  replace B0 : Below w.heap.size w w8 := B0.trans (h.mono B0.size)
  replace Px : Hid (MapR w8 (some ⟨bx, 0, none⟩) n S K V) := Px.out.below h
  replace Px1 : Hid (RowI w8 (some ⟨w6.heap.size, 0, none⟩) n1 P) := Px1.out.below h
  clear h
  have Px2 : Hid (RowI w8 (some ⟨w7.heap.size, 0, none⟩) n2 F) := O.row
  clear O
  go_wp2_with fail
  refine (H2.out _ _ _ _ _ _ _ Px.out Px1.out Px2.out).mono ?_
  rintro e w9 ⟨rfl, h⟩
  replace B0 : Below w.heap.size w w9 := B0.trans (h.mono B0.size)
  replace Px : Hid (MapR w9 (some ⟨bx, 0, none⟩) n S K V) := Px.out.below h
  replace Px1 : Hid (RowI w9 (some ⟨w6.heap.size, 0, none⟩) n1 P) := Px1.out.below h
  replace Px2 : Hid (RowI w9 (some ⟨w7.heap.size, 0, none⟩) n2 F) := Px2.out.below h
  clear h
  go_wp2_with fail
  refine (toSpeedLineS_any s n c S K V _ hn HK.out (HW.out _ B0)).mono ?_
  rintro e w10 ⟨bv, rfl, Rv, h⟩
  replace B0 : Below w.heap.size w w10 := B0.trans (h.mono B0.size)
  replace Px : Hid (MapR w10 (some ⟨bx, 0, none⟩) n S K V) := Px.out.below h
  replace Px1 : Hid (RowI w10 (some ⟨w6.heap.size, 0, none⟩) n1 P) := Px1.out.below h
  replace Px2 : Hid (RowI w10 (some ⟨w7.heap.size, 0, none⟩) n2 F) := Px2.out.below h
  clear h
  have Pv : Hid (MapR w10 (some ⟨bv, 0, none⟩) n S K V) := Rv
  clear Rv
  go_wp2_with fail
  refine (eqLines_any _ _ n _ _ S K V _ hn HK.out Px.out Pv.out).mono ?_
  rintro e w11 ⟨rfl, h⟩
  clear Px
  clear Pv
  replace B0 : Below w.heap.size w w11 := B0.trans (h.mono B0.size)
  replace Px1 : Hid (RowI w11 (some ⟨w6.heap.size, 0, none⟩) n1 P) := Px1.out.below h
  replace Px2 : Hid (RowI w11 (some ⟨w7.heap.size, 0, none⟩) n2 F) := Px2.out.below h
  clear h
  go_wp2_with fail
  refine (toInt64S_any s1 n1 c1 P _ hn1 (HU.out _ B0)).mono ?_
  rintro e w12 ⟨rfl, -, O, h⟩
  replace B0 : Below w.heap.size w w12 := B0.trans (h.mono B0.size)
  replace Px1 : Hid (RowI w12 (some ⟨w6.heap.size, 0, none⟩) n1 P) := Px1.out.below h
  replace Px2 : Hid (RowI w12 (some ⟨w7.heap.size, 0, none⟩) n2 F) := Px2.out.below h
  clear h
  have Pv1 : Hid (RowI w12 (some ⟨w11.heap.size, 0, none⟩) n1 P) := O.row
  clear O
  go_wp2_with fail
  refine (eqInt64S_any _ _ n1 _ _ P _ hn1 Px1.out Pv1.out).mono ?_
  rintro e w13 ⟨rfl, h⟩
  clear Px1
  clear Pv1
  replace B0 : Below w.heap.size w w13 := B0.trans (h.mono B0.size)
  replace Px2 : Hid (RowI w13 (some ⟨w7.heap.size, 0, none⟩) n2 F) := Px2.out.below h
  clear h
  go_wp2_with fail
  refine (toInt64S_any s2 n2 c2 F _ hn2 (HY.out _ B0)).mono ?_
  rintro e w14 ⟨rfl, -, O, h⟩
  replace B0 : Below w.heap.size w w14 := B0.trans (h.mono B0.size)
  replace Px2 : Hid (RowI w14 (some ⟨w7.heap.size, 0, none⟩) n2 F) := Px2.out.below h
  clear h
  have Pv2 : Hid (RowI w14 (some ⟨w13.heap.size, 0, none⟩) n2 F) := O.row
  clear O
  go_wp2_with fail
  refine (eqInt64S_any _ _ n2 _ _ F _ hn2 Px2.out Pv2.out).mono ?_
  rintro e w15 ⟨rfl, h⟩
  clear Px2
  clear Pv2
  replace B0 : Below w.heap.size w w15 := B0.trans (h.mono B0.size)
  clear h
  go_wp2
  go_ret
  exact ⟨rfl, B0⟩
set_option maxHeartbeats 800000 in
theorem surges_far1 (w : World) (s : Option Addr) (n c : Nat) (s1 : Option Addr) (n1 c1 : Nat) (s2 : Option Addr) (n2 c2 : Nat) (h1 : (1048576 : Int) < n1) :
    Calls Try.prog 7 #[.slice s n c, .slice s1 n1 c1, .slice s2 n2 c2] w fun e w' => e = .returned (.bool true) ∧ Below w.heap.size w w' := by
  go_enter Try.func7, Try.ntmps7
  go_wp2
  go_ret
  exact ⟨rfl, Below.refl _ _⟩
set_option maxHeartbeats 800000 in
theorem surges_far2 (w : World) (s : Option Addr) (n c : Nat) (s1 : Option Addr) (n1 c1 : Nat) (s2 : Option Addr) (n2 c2 : Nat) (h1 : (n1 : Int) ≤ 1048576) (h2 : (1048576 : Int) < n2) :
    Calls Try.prog 7 #[.slice s n c, .slice s1 n1 c1, .slice s2 n2 c2] w fun e w' => e = .returned (.bool true) ∧ Below w.heap.size w w' := by
  go_enter Try.func7, Try.ntmps7
  go_wp2
  go_ret
  exact ⟨rfl, Below.refl _ _⟩
set_option maxHeartbeats 800000 in
theorem surges_far (w : World) (s : Option Addr) (n c : Nat) (s1 : Option Addr) (n1 c1 : Nat) (s2 : Option Addr) (n2 c2 : Nat) (h1 : (n1 : Int) ≤ 1048576) (h2 : (n2 : Int) ≤ 1048576) (hn : (1048576 : Int) < n) (hn' : (n : Int) ≤ 9223372036854775807) :
    Calls Try.prog 7 #[.slice s n c, .slice s1 n1 c1, .slice s2 n2 c2] w fun e w' => e = .returned (.bool true) ∧ Below w.heap.size w w' := by
  go_enter Try.func7, Try.ntmps7
  go_wp2_with fail
  refine (szLines_far s n c _ hn hn').mono ?_
  rintro e w1 ⟨rfl, B0⟩
  go_wp2
  go_ret
  exact ⟨rfl, B0⟩

theorem fnExactSurges_walk (w : World) (s : Option Addr) (n c : Nat) (S : Nat → Int) (K : Nat → Nat) (V : Nat → Nat → Int) (hn : n ≤ 9223372036854775807) (hK : ∀ j, j < n → K j ≤ 9223372036854775807) (R : MapR w s n S K V) (s1 : Option Addr) (n1 c1 : Nat) (P : Nat → Int) (hn1 : n1 ≤ 9223372036854775807) (RP : RowI w s1 n1 P) (hP : ∀ j, j < n1 → -9223372036854775808 ≤ P j ∧ P j ≤ 9223372036854775807) (s2 : Option Addr) (n2 c2 : Nat) (F : Nat → Int) (hn2 : n2 ≤ 9223372036854775807) (RF : RowI w s2 n2 F) (hF : ∀ j, j < n2 → -9223372036854775808 ≤ F j ∧ F j ≤ 9223372036854775807) :
    Calls Try.prog 7 #[.slice s n c, .slice s1 n1 c1, .slice s2 n2 c2] w fun e w' => e = .returned (.bool true) ∧ Below w.heap.size w w' := by
  by_cases h1 : n1 ≤ 1048576
  · by_cases h2 : n2 ≤ 1048576
    · by_cases h : n ≤ 1048576
      · obtain ⟨G, hG⟩ : ∃ G : Int → Option Nat, ∀ x, MapV n S K V x (surgeF V) (G x) := ⟨fun x => Classical.choose (MapV.some n S K V x (surgeF V)), fun x => Classical.choose_spec (MapV.some n S K V x (surgeF V))⟩
        exact surges_near w s n c S K V s1 n1 c1 P s2 n2 c2 F (surgesI G P F n1 n2) (by omega) (by omega) (by omega) (fun j hj => by have := hK j hj; omega) R RP RF (fun s c s1 c1 s2 c2 w h g f => specSurges_any s n c S K V s1 n1 c1 P s2 n2 c2 F G hG w h g f) (fun s c s1 c1 s2 c2 w h g f => implSurges_any s n c S K V s1 n1 c1 P s2 n2 c2 F G hG w h g f)
      · exact surges_far w s n c s1 n1 c1 s2 n2 c2 (by omega) (by omega) (by omega) (by omega)
    · exact surges_far2 w s n c s1 n1 c1 s2 n2 c2 (by omega) (by omega)
  · exact surges_far1 w s n c s1 n1 c1 s2 n2 c2 (by omega)

set_option maxRecDepth 100000 in
theorem fnExactSurges_lifted (os : Os) (started : os.Started) (H : Type) (enc : TypeId × Value → H) :
    ReturnsInHanded {} Try.checked os 7 .any (Rows.fnExactSurgesSpec.pre6 enc Try.prog Try.f7 Rows.fnExactSurgesRow.domain false) (Rows.fnExactSurgesSpec.post enc Try.prog Try.f7 false true false false) := by
  refine returnsInHanded_of_change (C := Try.checked) own started (by kernel_rfl) Try.func7
    (ChangeSpec.witness6 (enc := enc) (C := Try.checked) false ⟨#[], #[.slice none 0 0, .slice none 0 0, .slice none 0 0], []⟩ 8 (by kernel_rfl) (by kernel_rfl) (by kernel_rfl) (by kernel_rfl)) ?_
  intro W base args ds gs before hval0 hW hcnd _
  have hval : ∀ (j : Nat) t v, Try.f7.params[j]? = some t → args[j]? = some v → Value.okWide Try.prog W .any base t v := hval0
  have hW' := hW
  obtain ⟨p, q, hA0, hV, rfl, hfz, hnd⟩ := hW
  have hA : DataW.TrodAll enc Try.prog W 0 (fun _ => true) true Try.f7.params.toList args.toList ds p := hA0
  rw [Try.params7] at hA hval
  obtain ⟨v0, vs0, d0, ds0, p0, q0, hargs, rfl, rfl, h0, r0⟩ := trodAll_cons hA
  obtain ⟨v1, vs1, d1, ds1, p1, q1, rfl, rfl, rfl, h1, r1⟩ := trodAll_cons r0
  obtain ⟨v2, vs2, d2, ds2, p2, q2, rfl, rfl, rfl, h2, r2⟩ := trodAll_cons r1
  obtain ⟨rfl, rfl, rfl⟩ := trodAll_nil r2
  obtain rfl : args = #[v0, v1, v2] := by cases args; simp_all
  obtain ⟨rfl, rfl⟩ := trodVars_none hV
  have k0 := h0
  have lt0 : ∀ x ∈ p0, x.block < W.heap.size := by obtain ⟨m, hm⟩ := k0; exact DataW.trod_lt m _ _ _ hm
  have k1 := h1
  have lt1 : ∀ x ∈ p1, x.block < W.heap.size := by obtain ⟨m, hm⟩ := k1; exact DataW.trod_lt m _ _ _ hm
  have k2 := h2
  have lt2 : ∀ x ∈ p2, x.block < W.heap.size := by obtain ⟨m, hm⟩ := k2; exact DataW.trod_lt m _ _ _ hm
  obtain ⟨s0, n0, c0, S0, K0, V0, rfl, m0, mk0, R0⟩ := open_lines Try.underlying22 Try.underlying43 (by kernel_rfl) rfl rfl (by kernel_rfl) (by kernel_rfl) (by kernel_rfl) rfl Try.underlying41 Try.underlying72 (by kernel_rfl) rfl rfl (by kernel_rfl) (by kernel_rfl) (by kernel_rfl) (by kernel_rfl) (hval 0 22 v0 rfl rfl) h0
  obtain ⟨s1, n1, c1, V1, rfl, m1, R1, w1⟩ := open_i64s Try.underlying35 Try.underlying2 (by kernel_rfl) (hval 1 35 v1 rfl rfl) h1
  obtain ⟨s2, n2, c2, V2, rfl, m2, R2, w2⟩ := open_i64s Try.underlying35 Try.underlying2 (by kernel_rfl) (hval 2 35 v2 rfl rfl) h2
  clear hA0 hval0
  refine (fnExactSurges_walk W s0 n0 c0 S0 K0 V0 m0 mk0 R0 s1 n1 c1 V1 m1 R1 w1 s2 n2 c2 V2 m2 R2 w2).mono fun e W' ⟨he, bel⟩ => ?_
  subst he
  exact ⟨_, rfl, _, _, _, [], _, [], hW', trodAll_mk1 (shut_bool Try.underlying4 _), (trodAll_cons_mk (Below.trod laidOut (by kernel_rfl) (of_decide_eq_true (by kernel_rfl)) k0 bel lt0) (trodAll_cons_mk (Below.trod laidOut (by kernel_rfl) (of_decide_eq_true (by kernel_rfl)) k1 bel lt1) (trodAll_cons_mk (Below.trod laidOut (by kernel_rfl) (of_decide_eq_true (by kernel_rfl)) k2 bel lt2) trodAll_mk0))), rfl, bel.frame _, fun h => by cases h⟩

theorem fnExactSurges_holds : Rows.FnExactSurgesSaid :=
  OpenClaim.holds_of_wide 7 Try.f7 rfl rfl rfl rfl rfl rfl rfl ⟨rfl, rfl, rfl, rfl, rfl⟩ rfl rfl rfl rfl rfl (by kernel_rfl) Try.func7 (by kernel_rfl)
    (of_decide_eq_true (by kernel_rfl)) (by unfold Func.isWrapper; first | (rw [if_pos (by decide +kernel)]; kernel_rfl) | (rw [if_neg (by decide +kernel)]; exact ⟨rfl, rfl⟩))
    (fun os started H enc _ => fnExactSurges_lifted os started H enc)
#print axioms fnExactSurges_holds
end Go.Proofs.Ytnijliidehgglaa
