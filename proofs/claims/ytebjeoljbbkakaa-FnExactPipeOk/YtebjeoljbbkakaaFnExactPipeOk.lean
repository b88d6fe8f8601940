/-
What is proved: at every pipe impl.PipeOk answers as the specification's PipeOk and leaves the pipe alone; no condition.
-/
import Derived.Test.YtebjeoljbbkakaaPipeS
import Derived.Test.YtebjeoljbbkakaaPipeL
import Derived.Test.YtebjeoljbbkakaaPipeO
import Derived.Deep.RegionHeld3
import Derived.Deep.DeepCutAuto
namespace Go.Proofs.Ytebjeoljbbkakaa
set_option maxRecDepth 40000
open Go.ChangeShapes Go.WideShapes Go.ChangeAt Go.RowKit
set_option linter.unusedVariables false
set_option linter.unusedSimpArgs false

theorem keepP {W W' : World} {p r : Nat} {a0 a1 b0 b1 : Value} (h0 : W.cell? ⟨p, 0, none⟩ = some a0) (h1 : W.cell? ⟨p, 1, none⟩ = some a1) (g0 : W.cell? ⟨r, 0, none⟩ = some b0) (g1 : W.cell? ⟨r, 1, none⟩ = some b1) (zp : p < W.heap.size) (zr : r < W.heap.size) (hb : Below W.heap.size W W') : W'.cell? ⟨p, 0, none⟩ = some a0 ∧ W'.cell? ⟨p, 1, none⟩ = some a1 ∧ W'.cell? ⟨r, 0, none⟩ = some b0 ∧ W'.cell? ⟨r, 1, none⟩ = some b1 :=
  ⟨(hb.cell (p := ⟨p, 0, none⟩) zp).trans h0, (hb.cell (p := ⟨p, 1, none⟩) zp).trans h1, (hb.cell (p := ⟨r, 0, none⟩) zr).trans g0, (hb.cell (p := ⟨r, 1, none⟩) zr).trans g1⟩
set_option maxHeartbeats 2000000 in
theorem pipeOk_near (w : World) (s : Option Addr) (n c : Nat) (V : Nat → Option Nat) (s2 : Option Addr) (n2 c2 : Nat) (V2 : Nat → Option Nat) (hn : (n : Int) ≤ 1048576) (hn2 : (n2 : Int) ≤ 1048576 - (n : Int)) (HR : Hid (RowF w s n V)) (HR2 : Hid (RowF w s2 n2 V2)) :
    Calls Try.prog 3 #[.agg #[.slice s n c, .slice s2 n2 c2]] w fun e w' => e = .returned (.bool true) ∧ Below w.heap.size w w' := by
  have hm2 : (n2 : Int) ≤ 1048576 := by omega
  have A1 : Hid (∀ W, Below w.heap.size w W → RowF W s n V) := fun W h => HR.out.below h
  have A2 : Hid (∀ W, Below w.heap.size w W → RowF W s2 n2 V2) := fun W h => HR2.out.below h
  have sto := store_sl
  obtain ⟨r, hr⟩ : ∃ r, pipeB n n2 V V2 = r := ⟨_, rfl⟩
  have S1 : Hid (∀ s c s2 c2 w, RowF w s n V → RowF w s2 n2 V2 → Calls Try.prog 7 #[.agg #[.slice s n c, .slice s2 n2 c2]] w fun e w' => e = .returned (.bool r) ∧ Below w.heap.size w w') := fun s c s2 c2 w h1 h2 => by rw [← hr]; exact specPipeOk_any s n c V s2 n2 c2 V2 w h1 h2
  have S2 : Hid (∀ s c s2 c2 w, RowF w s n V → RowF w s2 n2 V2 → Calls Try.prog 9 #[.agg #[.slice s n c, .slice s2 n2 c2]] w fun e w' => e = .returned (.bool r) ∧ Below w.heap.size w w') := fun s c s2 c2 w h1 h2 => by rw [← hr]; exact implPipeOk_any s n c V s2 n2 c2 V2 w hn hm2 h1 h2
  clear hr
  go_enter Try.func3, Try.ntmps3
  go_wp2_with fail
  refine (szPipe_on s n c V s2 n2 c2 V2 _ _ (by omega) (by omega) (by omega) hn2).mono ?_
  rintro e w1 ⟨rfl, h1⟩
  have q0 : w1.cell? ⟨w.heap.size, 0, none⟩ = some (.slice s n c) := by rw [h1.cell (by first | omega | (simp; done) | (simp; omega))]; simp
  have q1 : w1.cell? ⟨w.heap.size, 1, none⟩ = some (.slice s2 n2 c2) := by rw [h1.cell (by first | omega | (simp; done) | (simp; omega))]; simp
  have z0 : w.heap.size < w1.heap.size := by have := h1.size; simp at this; omega
  have B0 : Below w.heap.size w w1 := Below.trans (by repeat (first | with_reducible exact Below.refl _ _ | with_reducible refine Below.setCell ?_ (by first | omega | (simp; done) | (simp; omega)) _ | with_reducible refine bDrewN ?_ _ | with_reducible refine Below.drew ?_ | with_reducible refine Below.alloc ?_ (by first | omega | (simp; done) | (simp; omega)) _)) (h1.mono (by first | omega | (simp; done) | (simp; omega)))
  have s0 := B0.size
  have HB : Hid (Below w.heap.size w w1) := B0
  clear h1
  go_wp2_with fail
  refine (toPipe_any s n c V s2 n2 c2 V2 _ hn hm2 (A1.out _ HB.out) (A2.out _ HB.out)).mono ?_
  rintro e w2 ⟨b, b2, rfl, R1, R2, h2⟩
  replace q0 := (h2.cell (p := ⟨w.heap.size, 0, none⟩) z0).trans q0
  replace q1 := (h2.cell (p := ⟨w.heap.size, 1, none⟩) z0).trans q1
  replace z0 := Nat.lt_of_lt_of_le z0 h2.size
  replace B0 : Below w.heap.size w w2 := B0.trans (h2.mono s0)
  replace s0 := B0.size
  have G1 : Hid (RowF w2 (some ⟨b, 0, none⟩) n V) := R1
  have G2 : Hid (RowF w2 (some ⟨b2, 0, none⟩) n2 V2) := R2
  clear h2 R1 R2 HB
  go_wp2_with fail
  refine (S1.out _ _ _ _ _ G1.out G2.out).mono ?_
  rintro e w3 ⟨rfl, h3⟩
  replace q0 := (h3.cell (p := ⟨w.heap.size, 0, none⟩) z0).trans q0
  replace q1 := (h3.cell (p := ⟨w.heap.size, 1, none⟩) z0).trans q1
  replace z0 := Nat.lt_of_lt_of_le z0 h3.size
  replace B0 : Below w.heap.size w w3 := B0.trans (h3.mono s0)
  replace s0 := B0.size
  have HB : Hid (Below w.heap.size w w3) := B0
  clear h3 G1 G2
  go_wp2_with fail
  refine (toPipe_any s n c V s2 n2 c2 V2 _ hn hm2 (A1.out _ HB.out) (A2.out _ HB.out)).mono ?_
  rintro e w4 ⟨b, b2, rfl, R1, R2, h4⟩
  replace q0 := (h4.cell (p := ⟨w.heap.size, 0, none⟩) z0).trans q0
  replace q1 := (h4.cell (p := ⟨w.heap.size, 1, none⟩) z0).trans q1
  replace z0 := Nat.lt_of_lt_of_le z0 h4.size
  replace B0 : Below w.heap.size w w4 := B0.trans (h4.mono s0)
  replace s0 := B0.size
  have G1 : Hid (RowF w4 (some ⟨b, 0, none⟩) n V) := R1
  have G2 : Hid (RowF w4 (some ⟨b2, 0, none⟩) n2 V2) := R2
  clear h4 R1 R2 HB
  go_upto_region 7 with fail
  obtain ⟨wx, hwx⟩ : ∃ wx, wx = w4.alloc (.cells #[.slice (some ⟨b, 0, none⟩) n n, .slice (some ⟨b2, 0, none⟩) n2 n2] 27) := ⟨_, rfl⟩
  obtain ⟨p, hp⟩ : ∃ p, p = w4.heap.size := ⟨_, rfl⟩
  rw [← hwx, ← hp]
  have hb5 : Below w4.heap.size w4 wx := by rw [hwx]; exact below0 _ _
  have v0 : wx.cell? ⟨p, 0, none⟩ = some (.slice (some ⟨b, 0, none⟩) n n) := by rw [hwx, hp]; simp [go_sem]
  have v1 : wx.cell? ⟨p, 1, none⟩ = some (.slice (some ⟨b2, 0, none⟩) n2 n2) := by rw [hwx, hp]; simp [go_sem]
  have zp : p < wx.heap.size := by rw [hwx, hp]; simp
  replace q0 := (hb5.cell (p := ⟨w.heap.size, 0, none⟩) z0).trans q0
  replace q1 := (hb5.cell (p := ⟨w.heap.size, 1, none⟩) z0).trans q1
  replace z0 := Nat.lt_of_lt_of_le z0 hb5.size
  replace B0 : Below w.heap.size w wx := B0.trans (hb5.mono s0)
  replace s0 := B0.size
  replace G1 : Hid (RowF wx (some ⟨b, 0, none⟩) n V) := G1.out.below hb5
  replace G2 : Hid (RowF wx (some ⟨b2, 0, none⟩) n2 V2) := G2.out.below hb5
  clear hb5 hwx hp
  go_wp2_with fail
  refine (S2.out _ _ _ _ _ G1.out G2.out).mono ?_
  rintro e w6 ⟨rfl, h6⟩
  replace q0 := (h6.cell (p := ⟨w.heap.size, 0, none⟩) z0).trans q0
  replace q1 := (h6.cell (p := ⟨w.heap.size, 1, none⟩) z0).trans q1
  replace v0 := (h6.cell (p := ⟨p, 0, none⟩) zp).trans v0
  replace v1 := (h6.cell (p := ⟨p, 1, none⟩) zp).trans v1
  replace z0 := Nat.lt_of_lt_of_le z0 h6.size
  replace zp := Nat.lt_of_lt_of_le zp h6.size
  replace B0 : Below w.heap.size w w6 := B0.trans (h6.mono s0)
  replace s0 := B0.size
  replace G1 : Hid (RowF w6 (some ⟨b, 0, none⟩) n V) := G1.out.below h6
  replace G2 : Hid (RowF w6 (some ⟨b2, 0, none⟩) n2 V2) := G2.out.below h6
  have HB : Hid (Below w.heap.size w w6) := B0
  clear h6
  go_upto_region 10 with fail
  go_region_held3 (fun w' => w'.cell? ⟨w.heap.size, 0, none⟩ = some (.slice s n c) ∧ w'.cell? ⟨w.heap.size, 1, none⟩ = some (.slice s2 n2 c2) ∧ w'.cell? ⟨p, 0, none⟩ = some (.slice (some ⟨b, 0, none⟩) n n) ∧ w'.cell? ⟨p, 1, none⟩ = some (.slice (some ⟨b2, 0, none⟩) n2 n2)) (first | (refine keepP q0 q1 v0 v1 z0 zp ?_; exact (by repeat (first | with_reducible exact Below.refl _ _ | with_reducible exact B8 | with_reducible exact B7 | with_reducible refine Below.setCell ?_ (by first | omega | (simp; done) | (simp; omega)) _ | with_reducible refine bDrewN ?_ _ | with_reducible refine Below.drew ?_ | with_reducible refine Below.alloc ?_ (by first | omega | (simp; done) | (simp; omega)) _)))) (first
    | (go_at_call 8; refine (toPipe_any s n c V s2 n2 c2 V2 _ hn hm2 (A1.out _ (HB.out.trans (Below.mono (by repeat (first | with_reducible exact Below.refl _ _ | with_reducible refine Below.setCell ?_ (by first | omega | (simp; done) | (simp; omega)) _ | with_reducible refine bDrewN ?_ _ | with_reducible refine Below.drew ?_ | with_reducible refine Below.alloc ?_ (by first | omega | (simp; done) | (simp; omega)) _)) s0))) (A2.out _ (HB.out.trans (Below.mono (by repeat (first | with_reducible exact Below.refl _ _ | with_reducible refine Below.setCell ?_ (by first | omega | (simp; done) | (simp; omega)) _ | with_reducible refine bDrewN ?_ _ | with_reducible refine Below.drew ?_ | with_reducible refine Below.alloc ?_ (by first | omega | (simp; done) | (simp; omega)) _)) s0)))).mono ?_; rintro e w7 ⟨y, y2, rfl, R1, R2, h7⟩; have B7 : Below w6.heap.size w6 w7 := Below.trans (by repeat (first | with_reducible exact Below.refl _ _ | with_reducible refine Below.setCell ?_ (by first | omega | (simp; done) | (simp; omega)) _ | with_reducible refine bDrewN ?_ _ | with_reducible refine Below.drew ?_ | with_reducible refine Below.alloc ?_ (by first | omega | (simp; done) | (simp; omega)) _)) (h7.mono (by first | omega | (simp; done) | (simp; omega))); have s7 := B7.size; have F1 : Hid (RowF w7 (some ⟨y, 0, none⟩) n V) := R1; have F2 : Hid (RowF w7 (some ⟨y2, 0, none⟩) n2 V2) := R2; have K1 : Hid (RowF w7 (some ⟨b, 0, none⟩) n V) := G1.out.below B7; have K2 : Hid (RowF w7 (some ⟨b2, 0, none⟩) n2 V2) := G2.out.below B7; clear h7 R1 R2)
    | (go_at_call 10; refine (eqPipe_any _ _ n _ _ V _ _ n2 _ _ V2 _ hn hm2 K1.out K2.out F1.out F2.out).mono ?_; rintro e w8 ⟨rfl, h8⟩; have B8 : Below w6.heap.size w6 w8 := Below.trans (by repeat (first | with_reducible exact Below.refl _ _ | with_reducible exact B7 | with_reducible refine Below.setCell ?_ (by first | omega | (simp; done) | (simp; omega)) _ | with_reducible refine bDrewN ?_ _ | with_reducible refine Below.drew ?_ | with_reducible refine Below.alloc ?_ (by first | omega | (simp; done) | (simp; omega)) _)) (h8.mono (by first | omega | (simp; done) | (simp; omega))); clear h8))
  all_goals
    have Bx : Below w.heap.size w w8 := B0.trans (B8.mono s0)
    go_wp2
    go_ret
    exact ⟨rfl, (by repeat (first | with_reducible exact Below.refl _ _ | with_reducible exact Bx | with_reducible refine Below.setCell ?_ (by first | omega | (simp; done) | (simp; omega)) _ | with_reducible refine bDrewN ?_ _ | with_reducible refine Below.drew ?_ | with_reducible refine Below.alloc ?_ (by first | omega | (simp; done) | (simp; omega)) _))⟩
set_option maxHeartbeats 800000 in
theorem pipeOk_far1 (w : World) (s : Option Addr) (n c : Nat) (V : Nat → Option Nat) (s2 : Option Addr) (n2 c2 : Nat) (V2 : Nat → Option Nat) (hn : (1048576 : Int) < n) (hn' : (n : Int) ≤ 9223372036854775807) :
    Calls Try.prog 3 #[.agg #[.slice s n c, .slice s2 n2 c2]] w fun e w' => e = .returned (.bool true) ∧ Below w.heap.size w w' := by
  go_enter Try.func3, Try.ntmps3
  go_wp2_with fail
  refine (szPipe_off1 s n c V s2 n2 c2 V2 _ _ (by omega) (by omega) hn hn').mono ?_
  rintro e w1 ⟨rfl, h1⟩
  have B0 : Below w.heap.size w w1 := Below.trans (by repeat (first | with_reducible exact Below.refl _ _ | with_reducible refine Below.setCell ?_ (by first | omega | (simp; done) | (simp; omega)) _ | with_reducible refine bDrewN ?_ _ | with_reducible refine Below.drew ?_ | with_reducible refine Below.alloc ?_ (by first | omega | (simp; done) | (simp; omega)) _)) (h1.mono (by first | omega | (simp; done) | (simp; omega)))
  go_wp2
  go_ret
  exact ⟨rfl, B0⟩
set_option maxHeartbeats 800000 in
theorem pipeOk_far2 (w : World) (s : Option Addr) (n c : Nat) (V : Nat → Option Nat) (s2 : Option Addr) (n2 c2 : Nat) (V2 : Nat → Option Nat) (hn : (n : Int) ≤ 1048576) (hn2 : (1048576 : Int) - n < n2) (hn' : (n2 : Int) ≤ 9223372036854775807) :
    Calls Try.prog 3 #[.agg #[.slice s n c, .slice s2 n2 c2]] w fun e w' => e = .returned (.bool true) ∧ Below w.heap.size w w' := by
  go_enter Try.func3, Try.ntmps3
  go_wp2_with fail
  refine (szPipe_off2 s n c V s2 n2 c2 V2 _ _ (by omega) (by omega) hn hn2 hn').mono ?_
  rintro e w1 ⟨rfl, h1⟩
  have B0 : Below w.heap.size w w1 := Below.trans (by repeat (first | with_reducible exact Below.refl _ _ | with_reducible refine Below.setCell ?_ (by first | omega | (simp; done) | (simp; omega)) _ | with_reducible refine bDrewN ?_ _ | with_reducible refine Below.drew ?_ | with_reducible refine Below.alloc ?_ (by first | omega | (simp; done) | (simp; omega)) _)) (h1.mono (by first | omega | (simp; done) | (simp; omega)))
  go_wp2
  go_ret
  exact ⟨rfl, B0⟩

theorem fnExactPipeOk_walk (w : World) (s : Option Addr) (n c : Nat) (V : Nat → Option Nat) (s2 : Option Addr) (n2 c2 : Nat) (V2 : Nat → Option Nat) (hn : n ≤ 9223372036854775807) (hn2 : n2 ≤ 9223372036854775807) (R : RowF w s n V) (R2 : RowF w s2 n2 V2) :
    Calls Try.prog 3 #[.agg #[.slice s n c, .slice s2 n2 c2]] w fun e w' => e = .returned (.bool true) ∧ Below w.heap.size w w' := by
  by_cases h1 : n ≤ 1048576
  · by_cases h2 : (n2 : Int) ≤ 1048576 - (n : Int)
    · exact pipeOk_near w s n c V s2 n2 c2 V2 (by omega) h2 R R2
    · exact pipeOk_far2 w s n c V s2 n2 c2 V2 (by omega) (by omega) (by omega)
  · exact pipeOk_far1 w s n c V s2 n2 c2 V2 (by omega) (by omega)

set_option maxRecDepth 100000 in
theorem fnExactPipeOk_lifted (os : Os) (started : os.Started) (H : Type) (enc : TypeId × Value → H) :
    ReturnsInHanded {} Try.checked os 3 .any (Rows.fnExactPipeOkSpec.pre6 enc Try.prog Try.f3 Rows.fnExactPipeOkRow.domain false) (Rows.fnExactPipeOkSpec.post enc Try.prog Try.f3 false true false false) := by
  refine returnsInHanded_of_change (C := Try.checked) own started (by kernel_rfl) Try.func3
    (ChangeSpec.witness6 (enc := enc) (C := Try.checked) false ⟨#[], #[.agg #[.slice none 0 0, .slice none 0 0]], []⟩ 8 (by kernel_rfl) (by kernel_rfl) (by kernel_rfl) (by kernel_rfl)) ?_
  intro W base args ds gs before hval0 hW hcnd _
  have hval : ∀ (j : Nat) t v, Try.f3.params[j]? = some t → args[j]? = some v → Value.okWide Try.prog W .any base t v := hval0
  have hW' := hW
  obtain ⟨p, q, hA0, hV, rfl, hfz, hnd⟩ := hW
  have hA : DataW.TrodAll enc Try.prog W 0 (fun _ => true) true Try.f3.params.toList args.toList ds p := hA0
  rw [Try.params3] at hA hval
  obtain ⟨v0, vs0, d0, ds0, p0, q0, hargs, rfl, rfl, h0, r0⟩ := trodAll_cons hA
  obtain ⟨rfl, rfl, rfl⟩ := trodAll_nil r0
  obtain rfl : args = #[v0] := by cases args; simp_all
  obtain ⟨rfl, rfl⟩ := trodVars_none hV
  have k0 := h0
  have lt0 : ∀ x ∈ p0, x.block < W.heap.size := by obtain ⟨m, hm⟩ := k0; exact DataW.trod_lt m _ _ _ hm
  obtain ⟨s0, n0, c0, V0, s0b, n0b, c0b, V0b, rfl, m0, m0b, R0, R0b⟩ := open_pipe Try.underlying24 (l := 22) (by kernel_rfl) (by kernel_rfl) rfl rfl rfl rfl (by kernel_rfl) Try.underlying22 Try.underlying58 (by kernel_rfl) (hval 0 24 v0 rfl rfl) h0
  clear hA0 hval0
  refine (fnExactPipeOk_walk W s0 n0 c0 V0 s0b n0b c0b V0b m0 m0b R0 R0b).mono fun e W' ⟨he, bel⟩ => ?_
  subst he
  exact ⟨_, rfl, _, _, _, [], _, [], hW', trodAll_mk1 (shut_bool Try.underlying4 _), (trodAll_cons_mk (Below.trod laidOut (by kernel_rfl) (of_decide_eq_true (by kernel_rfl)) k0 bel lt0) trodAll_mk0), rfl, bel.frame _, fun h => by cases h⟩

theorem fnExactPipeOk_holds : Rows.FnExactPipeOkSaid :=
  OpenClaim.holds_of_wide 3 Try.f3 rfl rfl rfl rfl rfl rfl rfl ⟨rfl, rfl, rfl, rfl, rfl⟩ rfl rfl rfl rfl rfl (by kernel_rfl) Try.func3 (by kernel_rfl)
    (of_decide_eq_true (by kernel_rfl)) (by unfold Func.isWrapper; first | (rw [if_pos (by decide +kernel)]; kernel_rfl) | (rw [if_neg (by decide +kernel)]; exact ⟨rfl, rfl⟩))
    (fun os started H enc _ => fnExactPipeOk_lifted os started H enc)
#print axioms fnExactPipeOk_holds
end Go.Proofs.Ytebjeoljbbkakaa
