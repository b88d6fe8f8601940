/-
What is proved: FnOnLines: on a map that is drawn from any code, where it is right, at each line's speed and each of its points the ratio is the point's, it surges at the line's first flow, and of no flow below that a ratio is told; no condition.
-/
import Derived.Test.YtbabedfbadlhjaaLnM
import Derived.Test.YtbabedfbadlhjaaMapI
import Derived.Test.YtbabedfbadlhjaaMapK
import Derived.Test.YtbabedfbadlhjaaRatK
import Derived.Test.YtbabedfbadlhjaaKey
import Derived.Test.YtbabedfbadlhjaaOpen8
import Derived.Deep.RegionHeldLaw
import Derived.BigQuiet
namespace Go.Proofs.Ytbabedfbadlhjaa
set_option maxRecDepth 40000
open Go.ChangeShapes Go.WideShapes Go.ChangeAt Go.RowKit
set_option linter.unusedVariables false
set_option linter.unusedSimpArgs false

set_option maxHeartbeats 400000 in
theorem onLines_far (w : World) (s : Option Addr) (n c : Nat) (h : (1048576 : Int) < n) :
    Calls Try.prog 3 #[.slice s n c] w fun e w' => e = .returned (.bool true) ∧ Below w.heap.size w w' := by
  go_enter Try.func3, Try.ntmps3
  go_wp2_with fail
  refine (big_yes _ _ _ _ h).mono ?_
  rintro e w1 ⟨rfl, rfl⟩
  go_wp2
  go_ret
  exact ⟨rfl, Below.refl _ _⟩
theorem order_selfL {z : Nat} (h : rg z ≤ INF) : FloatKind.f64.format.order z z = some .eq := by
  rw [order_key h h]
  have : compare (key z) (key z) = .eq := by simp
  rw [this]
theorem itf_self (k : Int) : FloatKind.f64.format.order (itf k) (itf k) = some .eq := by
  refine order_selfL ?_
  rcases (itf_fl k).2 with ⟨h, _⟩ | ⟨_, e⟩
  · exact h
  · cases e
theorem fl_some {r z : Nat} (h : Fl r (some z)) : r = z := by
  rcases h.2 with ⟨_, e⟩ | ⟨_, e⟩
  · cases e; rfl
  · cases e
theorem nan_self {r : Nat} (h : Fl r none) : FloatKind.f64.format.order r r = none := by
  rw [fl_order h h]; rfl
theorem map_at {n : Nat} {S : Nat → Int} {K : Nat → Nat} {V : Nat → Nat → Int} {f : Nat → Option Nat} {o : Option Nat} {i : Nat} (hm : mapB n S K V = true) (hi : i < n) (h : MapV n S K V (S i) f o) : o = f i := by
  rcases h with ⟨e, _⟩ | ⟨_, h⟩
  · rw [hm] at e; cases e
  · exact h.one (map_ok hm).2 (.inl ⟨i, hi, rfl, rfl⟩)
theorem ratio_at (s : Option Addr) (n c : Nat) (S : Nat → Int) (K : Nat → Nat) (V : Nat → Nat → Int) (i k : Nat) (hm : mapB n S K V = true) (hi : i < n) (hk : k < K i) (w : World) (HR : MapR w s n S K V) :
    Calls Try.prog 13 #[.slice s n c, .int .i64 (S i), .int .i64 (V i (k * 2))] w fun e w' => e = .returned (.float .f64 (itf (V i (k * 2 + 1)))) ∧ Below w.heap.size w w' := by
  have hf : ∀ a, onV (K a) (V a) (V i (k * 2)) (Classical.choose (onV.some (K a) (V a) (V i (k * 2)))) := fun a => Classical.choose_spec (onV.some (K a) (V a) (V i (k * 2)))
  refine (implRatioAt_any s n c S K V (S i) (V i (k * 2)) _ hf w HR).mono ?_
  rintro e w' ⟨r, o, hV, rfl, hr, hb⟩
  have e1 := map_at hm hi hV
  have e2 := (hf i).one (line_in ((map_ok hm).2 i hi)).2.1 (.inl ⟨k, hk, rfl, rfl⟩)
  rw [e1, e2] at hr
  rw [fl_some hr]
  exact ⟨rfl, hb⟩
theorem ratio_off (s : Option Addr) (n c : Nat) (S : Nat → Int) (K : Nat → Nat) (V : Nat → Nat → Int) (i : Nat) (hm : mapB n S K V = true) (hi : i < n) (w : World) (HR : MapR w s n S K V) :
    Calls Try.prog 13 #[.slice s n c, .int .i64 (S i), .int .i64 (V i 0 - 1)] w fun e w' => (∃ r, e = .returned (.float .f64 r) ∧ FloatKind.f64.format.order r r = none) ∧ Below w.heap.size w w' := by
  have hf : ∀ a, onV (K a) (V a) (V i 0 - 1) (Classical.choose (onV.some (K a) (V a) (V i 0 - 1))) := fun a => Classical.choose_spec (onV.some (K a) (V a) (V i 0 - 1))
  refine (implRatioAt_any s n c S K V (S i) (V i 0 - 1) _ hf w HR).mono ?_
  rintro e w' ⟨r, o, hV, rfl, hr, hb⟩
  have e1 := map_at hm hi hV
  have hc := (line_in ((map_ok hm).2 i hi)).2.1
  have low : ∀ a, a < K i → V i 0 ≤ V i (a * 2) := fun a ha => by
    rcases Nat.eq_zero_or_pos a with z | z
    · subst z; simp
    · have := knot_mono hc (i := 0) z ha
      simp at this
      omega
  have e2 := (hf i).one hc (.inr (.inr ⟨fun a ha q => by have := low a ha; omega, fun a ha q => by have := low a (by omega); omega, rfl⟩))
  rw [e1, e2] at hr
  exact ⟨⟨r, rfl, nan_self hr⟩, hb⟩
theorem surge_at (s : Option Addr) (n c : Nat) (S : Nat → Int) (K : Nat → Nat) (V : Nat → Nat → Int) (i : Nat) (hm : mapB n S K V = true) (hi : i < n) (w : World) (HR : MapR w s n S K V) :
    Calls Try.prog 14 #[.slice s n c, .int .i64 (S i)] w fun e w' => e = .returned (.float .f64 (itf (V i 0))) ∧ Below w.heap.size w w' := by
  refine (implSurgeAt_any s n c S K V (S i) w HR).mono ?_
  rintro e w' ⟨r, o, hV, rfl, hr, hb⟩
  have e1 := map_at hm hi hV
  rw [e1] at hr
  rw [fl_some hr]
  exact ⟨rfl, hb⟩
theorem neq_selfL (b : Bool) : (b != b) = false := by cases b <;> rfl
set_option maxRecDepth 20000 in
set_option maxHeartbeats 8000000 in
theorem onLines_near (w : World) (s : Option Addr) (n c : Nat) (hn : (n : Int) ≤ 1048576) (HC : Hid (Code8 w s n)) :
    Calls Try.prog 3 #[.slice s n c] w fun e w' => e = .returned (.bool true) ∧ Below w.heap.size w w' := by
  go_enter Try.func3, Try.ntmps3
  go_wp2_with fail
  refine (big_no _ _ _ _ hn).mono ?_
  rintro e w1 ⟨rfl, rfl⟩
  rename World => w
  go_wp2_with fail
  refine (drawMapOk_any HC).mono ?_
  rintro e w2 h2
  unfold MapPost at h2
  obtain ⟨t, m, cap, S, K, V, rfl, hm, R2, hK, B2⟩ := h2
  have HM : Hid (MapR w2 t m S K V) := R2
  have HB : Hid (Below w.heap.size w w2) := B2
  have HK : Hid (∀ j, j < m → 1 ≤ K j ∧ K j ≤ 61) := hK
  clear R2 B2 HC hK
  go_wp2_with fail
  refine (implMapOk_any t m cap S K V w2 HM).mono ?_
  rintro e w3 ⟨rfl, b3⟩
  replace HM : Hid (MapR w3 t m S K V) := HM.out.below b3
  replace HB : Hid (Below w.heap.size w w3) := HB.out.trans (b3.mono HB.out.size)
  clear b3
  go_wp2_with fail
  refine (specMapOk_any t m cap S K V w3 HM).mono ?_
  rintro e w4 ⟨rfl, q4, hw4⟩
  have b4 : Below w3.heap.size w3 w4 := by rw [hw4]; exact bDrewN (Below.refl _ _) _
  replace HM : Hid (MapR w4 t m S K V) := HM.out.below b4
  replace HB : Hid (Below w.heap.size w w4) := HB.out.trans (b4.mono HB.out.size)
  clear b4 hw4
  have HMB : ∀ G, mapB m S K V = G → Hid (∀ W, MapR W t m S K V → Calls Try.prog 12 #[.slice t m cap] W fun e w' => e = .returned (.bool G) ∧ Below W.heap.size W w') := fun G e W h => (specMapOk_any t m cap S K V W h).mono (by
    rintro e' w' ⟨rfl, q, rfl⟩
    rw [e]
    exact ⟨rfl, bDrewN (Below.refl _ _) _⟩)
  obtain ⟨G, hG⟩ : ∃ G, mapB m S K V = G := ⟨_, rfl⟩
  have HG := HMB G hG
  have HGG : Hid (mapB m S K V = G) := hG
  have nG : (G != G) = false := neq_selfL G
  rw [hG]
  clear HMB hG
  go_wp2_with fail
  refine (HG.out w4 HM.out).mono ?_
  rintro e w5 ⟨rfl, b5⟩
  replace HM : Hid (MapR w5 t m S K V) := HM.out.below b5
  replace HB : Hid (Below w.heap.size w w5) := HB.out.trans (b5.mono HB.out.size)
  clear b5 HG nG
  cases G
  case false =>
    have BF := HB.out
    go_wp2
    go_ret
    exact ⟨rfl, BF⟩
  case true =>
    go_wp2_with fail
    go_loopw [4] (fun i wx => ∃ k : Nat, k ≤ m ∧ i = .int .i64 k ∧ Hid (Below w5.heap.size w5 wx)) (fun i _ => m - (intOf i).toNat)
    case atStart => exact ⟨0, by omega, rfl, Below.refl _ _⟩
    case round =>
      obtain ⟨i, hi, rfl, HX⟩ := hrel
      by_cases hlt : i < m
      case neg =>
        obtain rfl : i = m := by omega
        have BF : Below w.heap.size w wr := HB.out.trans (HX.out.mono HB.out.size)
        go_wp2
        go_ret
        exact ⟨rfl, BF⟩
      have i1 : (i : Int) < (m : Int) := by omega
      obtain ⟨b, oo, tp, cp, rfl, hbz, c0, c1, hrow⟩ := HM.out i hlt
      have HLN := line_in ((map_ok HGG.out).2 i hlt)
      have kin0 := knot_in HLN.2.1 (j := 0) (by have := HK.out i hlt; omega)
      have hX0 : -1000001 ≤ V i 0 ∧ V i 0 ≤ 1000001 := by have := kin0.1; unfold inC at this; simp at this; omega
      have HRA : Hid (∀ k, k < K i → ∀ W, MapR W (some ⟨b, oo, none⟩) m S K V → Calls Try.prog 13 #[.slice (some ⟨b, oo, none⟩) m cap, .int .i64 (S i), .int .i64 (V i (k * 2))] W fun e w' => e = .returned (.float .f64 (itf (V i (k * 2 + 1)))) ∧ Below W.heap.size W w') := fun k hk W h => ratio_at _ m cap S K V i k HGG.out hlt hk W h
      have HRO : Hid (∀ W, MapR W (some ⟨b, oo, none⟩) m S K V → Calls Try.prog 13 #[.slice (some ⟨b, oo, none⟩) m cap, .int .i64 (S i), .int .i64 (V i 0 - 1)] W fun e w' => (∃ r, e = .returned (.float .f64 r) ∧ FloatKind.f64.format.order r r = none) ∧ Below W.heap.size W w') := fun W h => ratio_off _ m cap S K V i HGG.out hlt W h
      have HSA : Hid (∀ W, MapR W (some ⟨b, oo, none⟩) m S K V → Calls Try.prog 14 #[.slice (some ⟨b, oo, none⟩) m cap, .int .i64 (S i)] W fun e w' => e = .returned (.float .f64 (itf (V i 0))) ∧ Below W.heap.size W w') := fun W h => surge_at _ m cap S K V i HGG.out hlt W h
      have HRW : Hid (RowI w5 tp (K i * 2) (V i)) := hrow
      have hKi := HK.out i hlt
      obtain ⟨x, hx⟩ : ∃ z, S i = z := ⟨_, rfl⟩
      obtain ⟨N, hN⟩ : ∃ z, K i = z := ⟨_, rfl⟩
      rw [hx] at c0 HRA HRO HSA
      rw [hN] at c1 HRA HRW hKi
      have e0 := (HX.out.cell (p := ⟨b, oo + i * 2, none⟩) hbz).trans c0
      have e1 := (HX.out.cell (p := ⟨b, oo + i * 2 + 1, none⟩) hbz).trans c1
      clear HLN kin0 hrow hx hN
      rename World => wq
      go_upto_region 12 with fail
      clear e1
      go_wp2_with fail
      go_loopw [6] (fun j wx => ∃ k : Nat, k ≤ N ∧ j = .int .i64 k ∧ Hid (Below w5.heap.size w5 wx)) (fun j _ => N - (intOf j).toNat)
      case atStart => exact ⟨0, by omega, rfl, HX⟩
      case round =>
        clear HX e0
        obtain ⟨k, hk, rfl, HX⟩ := hrel
        rename World => wa
        have e0 := (HX.out.cell (p := ⟨b, oo + i * 2, none⟩) hbz).trans c0
        have zb : b < wa.heap.size := Nat.lt_of_lt_of_le hbz HX.out.size
        by_cases hkl : k < N
        case pos =>
          have k1 : (k : Int) < (N : Int) := by omega
          obtain ⟨pb, po, rfl, hpz, d0⟩ := HRW.out (k * 2) (by omega)
          obtain ⟨pb', po', e9, -, d1⟩ := HRW.out (k * 2 + 1) (by omega)
          cases e9
          replace d0 := (HX.out.cell (p := ⟨pb, po + k * 2, none⟩) hpz).trans d0
          replace d1 := (HX.out.cell (p := ⟨pb, po + (k * 2 + 1), none⟩) hpz).trans d1
          rw [← Nat.add_assoc] at d1
          have zp : pb < wa.heap.size := Nat.lt_of_lt_of_le hpz HX.out.size
          have HR9 := HRA.out k hkl
          obtain ⟨X, hX⟩ : ∃ z, V i (k * 2) = z := ⟨_, rfl⟩
          obtain ⟨Y, hY⟩ : ∃ z, V i (k * 2 + 1) = z := ⟨_, rfl⟩
          rw [hX] at d0 HR9
          rw [hY] at d1 HR9
          have HR8 : Hid (∀ W, MapR W (some ⟨b, oo, none⟩) m S K V → Calls Try.prog 13 #[.slice (some ⟨b, oo, none⟩) m cap, .int .i64 x, .int .i64 X] W fun e w' => e = .returned (.float .f64 (itf Y)) ∧ Below W.heap.size W w') := HR9
          have ho := itf_self Y
          obtain ⟨z, hz⟩ : ∃ z, itf Y = z := ⟨_, rfl⟩
          have HZ : Hid (itf Y = z) := hz
          rw [hz] at HR8 ho
          clear hX hY HR9 hz
          go_upto_region 15 with fail
          refine wp_region_held_drew (S := fun w' => w'.cell? ⟨b, oo + i * 2, none⟩ = some (.int .i64 x) ∧ w'.cell? ⟨pb, po + k * 2, none⟩ = some (.int .i64 X) ∧ w'.cell? ⟨pb, po + k * 2 + 1, none⟩ = some (.int .i64 Y)) (by kernel_rfl) ?_ (fun hHeld => ?_)
          · exact ⟨by simpa [go_sem] using e0, by simpa [go_sem] using d0, by simpa [go_sem] using d1⟩
          obtain ⟨v0, hv0⟩ : ∃ z, z = wa.drew := ⟨_, rfl⟩
          try rw [← hv0] at hHeld
          rw [← hv0]
          have bv0 : Below wa.heap.size wa v0 := by rw [hv0]; exact Below.drew (Below.refl _ _)
          clear hv0
          have HB9 : Hid (Below wa.heap.size wa v0) := bv0
          clear bv0
          refine wpAnyH_take (i := 0) (v := .slice (some ⟨b, oo, none⟩) m cap) rfl (by kernel_rfl) (by kernel_rfl) (by kernel_rfl) (fun _ _ _ h => h) (Or.inl ⟨by kernel_rfl, ?_⟩) hHeld ?_
          · intro w' hSw
            obtain ⟨s0_, s1_, s2_⟩ := hSw
            first | (go_simp; done) | (go_simp; with_reducible rfl) | (go_simp; rw [IntKind.wrap_i64]; omega) | (go_simp; omega)
          simp only [Act.put, List.setIfInBounds_toArray, List.set_cons_zero, List.set_cons_succ]
          refine wpAnyH_take (i := 1) (v := .slice (some ⟨b, oo, none⟩) m cap) rfl (by kernel_rfl) (by kernel_rfl) (by kernel_rfl) (fun _ _ _ h => h) (Or.inl ⟨by kernel_rfl, ?_⟩) hHeld ?_
          · intro w' hSw
            obtain ⟨s0_, s1_, s2_⟩ := hSw
            first | (go_simp; done) | (go_simp; with_reducible rfl) | (go_simp; rw [IntKind.wrap_i64]; omega) | (go_simp; omega)
          simp only [Act.put, List.setIfInBounds_toArray, List.set_cons_zero, List.set_cons_succ]
          refine wpAnyH_take (i := 2) (v := .int .i64 (i : Int)) rfl (by kernel_rfl) (by kernel_rfl) (by kernel_rfl) (fun _ _ _ h => h) (Or.inl ⟨by kernel_rfl, ?_⟩) hHeld ?_
          · intro w' hSw
            obtain ⟨s0_, s1_, s2_⟩ := hSw
            first | (go_simp; done) | (go_simp; with_reducible rfl) | (go_simp; rw [IntKind.wrap_i64]; omega) | (go_simp; omega)
          simp only [Act.put, List.setIfInBounds_toArray, List.set_cons_zero, List.set_cons_succ]
          refine wpAnyH_take (i := 3) (v := .pointer (some ⟨b, oo + i * 2, none⟩)) rfl (by kernel_rfl) (by kernel_rfl) (by kernel_rfl) (fun _ _ _ h => h) (Or.inl ⟨by kernel_rfl, ?_⟩) hHeld ?_
          · intro w' hSw
            obtain ⟨s0_, s1_, s2_⟩ := hSw
            first | (go_simp; done) | (go_simp; with_reducible rfl) | (go_simp; rw [IntKind.wrap_i64]; omega) | (go_simp; omega)
          simp only [Act.put, List.setIfInBounds_toArray, List.set_cons_zero, List.set_cons_succ]
          refine wpAnyH_take (i := 4) (v := .pointer (some ⟨b, oo + i * 2, none⟩)) rfl (by kernel_rfl) (by kernel_rfl) (by kernel_rfl) (fun _ _ _ h => h) (Or.inl ⟨by kernel_rfl, ?_⟩) hHeld ?_
          · intro w' hSw
            obtain ⟨s0_, s1_, s2_⟩ := hSw
            first | (go_simp; done) | (go_simp; with_reducible rfl) | (go_simp; rw [IntKind.wrap_i64]; omega) | (go_simp; omega)
          simp only [Act.put, List.setIfInBounds_toArray, List.set_cons_zero, List.set_cons_succ]
          refine wpAnyH_take (i := 5) (v := .int .i64 x) rfl (by kernel_rfl) (by kernel_rfl) (by kernel_rfl) (fun _ _ _ h => h) (Or.inl ⟨by kernel_rfl, ?_⟩) hHeld ?_
          · intro w' hSw
            obtain ⟨s0_, s1_, s2_⟩ := hSw
            first | (go_simp; done) | (go_simp; with_reducible rfl) | (go_simp; rw [IntKind.wrap_i64]; omega) | (go_simp; omega)
          simp only [Act.put, List.setIfInBounds_toArray, List.set_cons_zero, List.set_cons_succ]
          refine wpAnyH_take (i := 6) (v := .slice (some ⟨pb, po, none⟩) N cp) rfl (by kernel_rfl) (by kernel_rfl) (by kernel_rfl) (fun _ _ _ h => h) (Or.inl ⟨by kernel_rfl, ?_⟩) hHeld ?_
          · intro w' hSw
            obtain ⟨s0_, s1_, s2_⟩ := hSw
            first | (go_simp; done) | (go_simp; with_reducible rfl) | (go_simp; rw [IntKind.wrap_i64]; omega) | (go_simp; omega)
          simp only [Act.put, List.setIfInBounds_toArray, List.set_cons_zero, List.set_cons_succ]
          refine wpAnyH_take (i := 7) (v := .int .i64 (k : Int)) rfl (by kernel_rfl) (by kernel_rfl) (by kernel_rfl) (fun _ _ _ h => h) (Or.inl ⟨by kernel_rfl, ?_⟩) hHeld ?_
          · intro w' hSw
            obtain ⟨s0_, s1_, s2_⟩ := hSw
            first | (go_simp; done) | (go_simp; with_reducible rfl) | (go_simp; rw [IntKind.wrap_i64]; omega) | (go_simp; omega)
          simp only [Act.put, List.setIfInBounds_toArray, List.set_cons_zero, List.set_cons_succ]
          refine wpAnyH_take (i := 8) (v := .pointer (some ⟨pb, po + k * 2, none⟩)) rfl (by kernel_rfl) (by kernel_rfl) (by kernel_rfl) (fun _ _ _ h => h) (Or.inl ⟨by kernel_rfl, ?_⟩) hHeld ?_
          · intro w' hSw
            obtain ⟨s0_, s1_, s2_⟩ := hSw
            first | (go_simp; done) | (go_simp; with_reducible rfl) | (go_simp; rw [IntKind.wrap_i64]; omega) | (go_simp; omega)
          simp only [Act.put, List.setIfInBounds_toArray, List.set_cons_zero, List.set_cons_succ]
          refine wpAnyH_take (i := 9) (v := .pointer (some ⟨pb, po + k * 2, none⟩)) rfl (by kernel_rfl) (by kernel_rfl) (by kernel_rfl) (fun _ _ _ h => h) (Or.inl ⟨by kernel_rfl, ?_⟩) hHeld ?_
          · intro w' hSw
            obtain ⟨s0_, s1_, s2_⟩ := hSw
            first | (go_simp; done) | (go_simp; with_reducible rfl) | (go_simp; rw [IntKind.wrap_i64]; omega) | (go_simp; omega)
          simp only [Act.put, List.setIfInBounds_toArray, List.set_cons_zero, List.set_cons_succ]
          refine wpAnyH_take (i := 10) (v := .int .i64 X) rfl (by kernel_rfl) (by kernel_rfl) (by kernel_rfl) (fun _ _ _ h => h) (Or.inl ⟨by kernel_rfl, ?_⟩) hHeld ?_
          · intro w' hSw
            obtain ⟨s0_, s1_, s2_⟩ := hSw
            first | (go_simp; done) | (go_simp; with_reducible rfl) | (go_simp; rw [IntKind.wrap_i64]; omega) | (go_simp; omega)
          simp only [Act.put, List.setIfInBounds_toArray, List.set_cons_zero, List.set_cons_succ]
          refine wpAnyH_take (i := 12) (v := .slice (some ⟨pb, po, none⟩) N cp) rfl (by kernel_rfl) (by kernel_rfl) (by kernel_rfl) (fun _ _ _ h => h) (Or.inl ⟨by kernel_rfl, ?_⟩) hHeld ?_
          · intro w' hSw
            obtain ⟨s0_, s1_, s2_⟩ := hSw
            first | (go_simp; done) | (go_simp; with_reducible rfl) | (go_simp; rw [IntKind.wrap_i64]; omega) | (go_simp; omega)
          simp only [Act.put, List.setIfInBounds_toArray, List.set_cons_zero, List.set_cons_succ]
          refine wpAnyH_take (i := 13) (v := .int .i64 (k : Int)) rfl (by kernel_rfl) (by kernel_rfl) (by kernel_rfl) (fun _ _ _ h => h) (Or.inl ⟨by kernel_rfl, ?_⟩) hHeld ?_
          · intro w' hSw
            obtain ⟨s0_, s1_, s2_⟩ := hSw
            first | (go_simp; done) | (go_simp; with_reducible rfl) | (go_simp; rw [IntKind.wrap_i64]; omega) | (go_simp; omega)
          simp only [Act.put, List.setIfInBounds_toArray, List.set_cons_zero, List.set_cons_succ]
          refine wpAnyH_take (i := 14) (v := .pointer (some ⟨pb, po + k * 2, none⟩)) rfl (by kernel_rfl) (by kernel_rfl) (by kernel_rfl) (fun _ _ _ h => h) (Or.inl ⟨by kernel_rfl, ?_⟩) hHeld ?_
          · intro w' hSw
            obtain ⟨s0_, s1_, s2_⟩ := hSw
            first | (go_simp; done) | (go_simp; with_reducible rfl) | (go_simp; rw [IntKind.wrap_i64]; omega) | (go_simp; omega)
          simp only [Act.put, List.setIfInBounds_toArray, List.set_cons_zero, List.set_cons_succ]
          refine wpAnyH_take (i := 15) (v := .pointer (some ⟨pb, po + k * 2 + 1, none⟩)) rfl (by kernel_rfl) (by kernel_rfl) (by kernel_rfl) (fun _ _ _ h => h) (Or.inl ⟨by kernel_rfl, ?_⟩) hHeld ?_
          · intro w' hSw
            obtain ⟨s0_, s1_, s2_⟩ := hSw
            first | (go_simp; done) | (go_simp; with_reducible rfl) | (go_simp; rw [IntKind.wrap_i64]; omega) | (go_simp; omega)
          simp only [Act.put, List.setIfInBounds_toArray, List.set_cons_zero, List.set_cons_succ]
          refine wpAnyH_take (i := 16) (v := .int .i64 Y) rfl (by kernel_rfl) (by kernel_rfl) (by kernel_rfl) (fun _ _ _ h => h) (Or.inl ⟨by kernel_rfl, ?_⟩) hHeld ?_
          · intro w' hSw
            obtain ⟨s0_, s1_, s2_⟩ := hSw
            first | (go_simp; done) | (go_simp; with_reducible rfl) | (go_simp; rw [IntKind.wrap_i64]; omega) | (go_simp; omega)
          simp only [Act.put, List.setIfInBounds_toArray, List.set_cons_zero, List.set_cons_succ]
          refine wpAnyH_take (i := 17) (v := .float .f64 z) rfl (by kernel_rfl) (by kernel_rfl) (by kernel_rfl) (fun _ _ _ h => h) (Or.inl ⟨by kernel_rfl, ?_⟩) hHeld ?_
          · intro w' hSw
            obtain ⟨s0_, s1_, s2_⟩ := hSw
            (rw [← HZ.out]; kernel_rfl)
          simp only [Act.put, List.setIfInBounds_toArray, List.set_cons_zero, List.set_cons_succ]
          refine wpAnyH_ready (rs := [11]) (by kernel_rfl) (by simp) ?_
          refine (AllReadyH.cons rfl (fun KK hK => ?_) AllReadyH.nil)
          go_simp
          go_wp2_with (first | (go_at_call 13; refine (HR8.out _ (HM.out.below (HX.out.trans (HB9.out.mono HX.out.size)))).mono ?_; rintro e v0_1 ⟨rfl, b9⟩; replace HB9 : Hid (Below wa.heap.size wa v0_1) := HB9.out.trans (b9.mono HB9.out.size); clear b9))
          refine hK.out _ _ (⟨(HB9.out.cell (p := ⟨b, oo + i * 2, none⟩) zb).trans e0, (HB9.out.cell (p := ⟨pb, po + k * 2, none⟩) zp).trans d0, (HB9.out.cell (p := ⟨pb, po + k * 2 + 1, none⟩) zp).trans d1⟩) (fun hHeld => ?_)
          clear hK KK
          refine wpAnyH_ready (rs := [18]) (by kernel_rfl) (by simp) ?_
          refine AllReadyH.cons rfl (fun KK hK => ?_) AllReadyH.nil
          go_simp
          refine hK.out _ _ hHeld (fun hHeld => ?_)
          clear hK KK
          refine wpAnyH_done (by kernel_rfl) ?_ _
          clear hHeld
          have HX9 : Hid (Below w5.heap.size w5 v0_1) := HX.out.trans (HB9.out.mono HX.out.size)
          clear HB9
          go_wp2
          go_roundw
          case rel => exact ⟨k + 1, by omega, by go_num, HX9⟩
          case measure => simp [intOf]; omega
        case neg =>
          obtain rfl : k = N := by omega
          obtain ⟨pb, po, rfl, hpz, d0⟩ := HRW.out 0 (by omega)
          replace d0 := (HX.out.cell (p := ⟨pb, po + 0, none⟩) hpz).trans d0
          rw [Nat.add_zero] at d0
          have zp : pb < wa.heap.size := Nat.lt_of_lt_of_le hpz HX.out.size
          obtain ⟨X, hX⟩ : ∃ z, V i 0 = z := ⟨_, rfl⟩
          rw [hX] at d0 HRO HSA hX0
          obtain ⟨X1, hX1⟩ : ∃ z, X - 1 = z := ⟨_, rfl⟩
          rw [hX1] at HRO
          have ho := itf_self X
          obtain ⟨z, hz⟩ : ∃ z, itf X = z := ⟨_, rfl⟩
          have HZ : Hid (itf X = z) := hz
          rw [hz] at HSA ho
          have N0 : (0 : Int) < (k : Int) := by omega
          clear hX hz
          go_upto_region 17 with fail
          refine wp_region_held_drew (S := fun w' => w'.cell? ⟨b, oo + i * 2, none⟩ = some (.int .i64 x) ∧ w'.cell? ⟨pb, po, none⟩ = some (.int .i64 X)) (by kernel_rfl) ?_ (fun hHeld => ?_)
          · exact ⟨by simpa [go_sem] using e0, by simpa [go_sem] using d0⟩
          obtain ⟨v0, hv0⟩ : ∃ z, z = wa.drew := ⟨_, rfl⟩
          try rw [← hv0] at hHeld
          rw [← hv0]
          have bv0 : Below wa.heap.size wa v0 := by rw [hv0]; exact Below.drew (Below.refl _ _)
          clear hv0
          have HB9 : Hid (Below wa.heap.size wa v0) := bv0
          clear bv0
          refine wpAnyH_take (i := 0) (v := .slice (some ⟨b, oo, none⟩) m cap) rfl (by kernel_rfl) (by kernel_rfl) (by kernel_rfl) (fun _ _ _ h => h) (Or.inl ⟨by kernel_rfl, ?_⟩) hHeld ?_
          · intro w' hSw
            obtain ⟨s0_, s1_⟩ := hSw
            first | (go_simp; done) | (go_simp; with_reducible rfl) | (go_simp; rw [IntKind.wrap_i64]; omega) | (go_simp; omega)
          simp only [Act.put, List.setIfInBounds_toArray, List.set_cons_zero, List.set_cons_succ]
          refine wpAnyH_take (i := 1) (v := .slice (some ⟨b, oo, none⟩) m cap) rfl (by kernel_rfl) (by kernel_rfl) (by kernel_rfl) (fun _ _ _ h => h) (Or.inl ⟨by kernel_rfl, ?_⟩) hHeld ?_
          · intro w' hSw
            obtain ⟨s0_, s1_⟩ := hSw
            first | (go_simp; done) | (go_simp; with_reducible rfl) | (go_simp; rw [IntKind.wrap_i64]; omega) | (go_simp; omega)
          simp only [Act.put, List.setIfInBounds_toArray, List.set_cons_zero, List.set_cons_succ]
          refine wpAnyH_take (i := 2) (v := .int .i64 (i : Int)) rfl (by kernel_rfl) (by kernel_rfl) (by kernel_rfl) (fun _ _ _ h => h) (Or.inl ⟨by kernel_rfl, ?_⟩) hHeld ?_
          · intro w' hSw
            obtain ⟨s0_, s1_⟩ := hSw
            first | (go_simp; done) | (go_simp; with_reducible rfl) | (go_simp; rw [IntKind.wrap_i64]; omega) | (go_simp; omega)
          simp only [Act.put, List.setIfInBounds_toArray, List.set_cons_zero, List.set_cons_succ]
          refine wpAnyH_take (i := 3) (v := .pointer (some ⟨b, oo + i * 2, none⟩)) rfl (by kernel_rfl) (by kernel_rfl) (by kernel_rfl) (fun _ _ _ h => h) (Or.inl ⟨by kernel_rfl, ?_⟩) hHeld ?_
          · intro w' hSw
            obtain ⟨s0_, s1_⟩ := hSw
            first | (go_simp; done) | (go_simp; with_reducible rfl) | (go_simp; rw [IntKind.wrap_i64]; omega) | (go_simp; omega)
          simp only [Act.put, List.setIfInBounds_toArray, List.set_cons_zero, List.set_cons_succ]
          refine wpAnyH_take (i := 4) (v := .pointer (some ⟨b, oo + i * 2, none⟩)) rfl (by kernel_rfl) (by kernel_rfl) (by kernel_rfl) (fun _ _ _ h => h) (Or.inl ⟨by kernel_rfl, ?_⟩) hHeld ?_
          · intro w' hSw
            obtain ⟨s0_, s1_⟩ := hSw
            first | (go_simp; done) | (go_simp; with_reducible rfl) | (go_simp; rw [IntKind.wrap_i64]; omega) | (go_simp; omega)
          simp only [Act.put, List.setIfInBounds_toArray, List.set_cons_zero, List.set_cons_succ]
          refine wpAnyH_take (i := 5) (v := .int .i64 x) rfl (by kernel_rfl) (by kernel_rfl) (by kernel_rfl) (fun _ _ _ h => h) (Or.inl ⟨by kernel_rfl, ?_⟩) hHeld ?_
          · intro w' hSw
            obtain ⟨s0_, s1_⟩ := hSw
            first | (go_simp; done) | (go_simp; with_reducible rfl) | (go_simp; rw [IntKind.wrap_i64]; omega) | (go_simp; omega)
          simp only [Act.put, List.setIfInBounds_toArray, List.set_cons_zero, List.set_cons_succ]
          refine wpAnyH_take (i := 6) (v := .slice (some ⟨pb, po, none⟩) k cp) rfl (by kernel_rfl) (by kernel_rfl) (by kernel_rfl) (fun _ _ _ h => h) (Or.inl ⟨by kernel_rfl, ?_⟩) hHeld ?_
          · intro w' hSw
            obtain ⟨s0_, s1_⟩ := hSw
            first | (go_simp; done) | (go_simp; with_reducible rfl) | (go_simp; rw [IntKind.wrap_i64]; omega) | (go_simp; omega)
          simp only [Act.put, List.setIfInBounds_toArray, List.set_cons_zero, List.set_cons_succ]
          refine wpAnyH_take (i := 7) (v := .pointer (some ⟨pb, po, none⟩)) rfl (by kernel_rfl) (by kernel_rfl) (by kernel_rfl) (fun _ _ _ h => h) (Or.inl ⟨by kernel_rfl, ?_⟩) hHeld ?_
          · intro w' hSw
            obtain ⟨s0_, s1_⟩ := hSw
            first | (go_simp; done) | (go_simp; with_reducible rfl) | (go_simp; rw [IntKind.wrap_i64]; omega) | (go_simp; omega)
          simp only [Act.put, List.setIfInBounds_toArray, List.set_cons_zero, List.set_cons_succ]
          refine wpAnyH_take (i := 8) (v := .pointer (some ⟨pb, po, none⟩)) rfl (by kernel_rfl) (by kernel_rfl) (by kernel_rfl) (fun _ _ _ h => h) (Or.inl ⟨by kernel_rfl, ?_⟩) hHeld ?_
          · intro w' hSw
            obtain ⟨s0_, s1_⟩ := hSw
            first | (go_simp; done) | (go_simp; with_reducible rfl) | (go_simp; rw [IntKind.wrap_i64]; omega) | (go_simp; omega)
          simp only [Act.put, List.setIfInBounds_toArray, List.set_cons_zero, List.set_cons_succ]
          refine wpAnyH_take (i := 9) (v := .int .i64 X) rfl (by kernel_rfl) (by kernel_rfl) (by kernel_rfl) (fun _ _ _ h => h) (Or.inl ⟨by kernel_rfl, ?_⟩) hHeld ?_
          · intro w' hSw
            obtain ⟨s0_, s1_⟩ := hSw
            first | (go_simp; done) | (go_simp; with_reducible rfl) | (go_simp; rw [IntKind.wrap_i64]; omega) | (go_simp; omega)
          simp only [Act.put, List.setIfInBounds_toArray, List.set_cons_zero, List.set_cons_succ]
          refine wpAnyH_take (i := 10) (v := .int .i64 X1) rfl (by kernel_rfl) (by kernel_rfl) (by kernel_rfl) (fun _ _ _ h => h) (Or.inl ⟨by kernel_rfl, ?_⟩) hHeld ?_
          · intro w' hSw
            obtain ⟨s0_, s1_⟩ := hSw
            first | (go_simp; done) | (go_simp; with_reducible rfl) | (go_simp; rw [IntKind.wrap_i64]; omega) | (go_simp; omega)
          simp only [Act.put, List.setIfInBounds_toArray, List.set_cons_zero, List.set_cons_succ]
          refine wpAnyH_ready (rs := [11]) (by kernel_rfl) (by simp) ?_
          refine (AllReadyH.cons rfl (fun KK hK => ?_) AllReadyH.nil)
          go_simp
          go_wp2_with (first | (go_at_call 13; refine (HRO.out _ (HM.out.below (HX.out.trans (HB9.out.mono HX.out.size)))).mono ?_; rintro e v0_1 ⟨⟨rr, rfl, horr⟩, b9⟩; replace HB9 : Hid (Below wa.heap.size wa v0_1) := HB9.out.trans (b9.mono HB9.out.size); clear b9))
          refine hK.out _ _ (⟨(HB9.out.cell (p := ⟨b, oo + i * 2, none⟩) zb).trans e0, (HB9.out.cell (p := ⟨pb, po, none⟩) zp).trans d0⟩) (fun hHeld => ?_)
          clear hK KK
          refine wpAnyH_ready (rs := [12]) (by kernel_rfl) (by simp) ?_
          refine AllReadyH.cons rfl (fun KK hK => ?_) AllReadyH.nil
          go_simp
          refine hK.out _ _ hHeld (fun hHeld => ?_)
          clear hK KK
          refine wpAnyH_done (by kernel_rfl) ?_ _
          clear hHeld
          have e0' := (HB9.out.cell (p := ⟨b, oo + i * 2, none⟩) zb).trans e0
          have d0' := (HB9.out.cell (p := ⟨pb, po, none⟩) zp).trans d0
          have HX8 : Hid (Below w5.heap.size w5 v0_1) := HX.out.trans (HB9.out.mono HX.out.size)
          have zb' : b < v0_1.heap.size := Nat.lt_of_lt_of_le zb HB9.out.size
          have zp' : pb < v0_1.heap.size := Nat.lt_of_lt_of_le zp HB9.out.size
          clear HB9 e0 d0 zb zp HX
          rename World => wa
          have HX := HX8
          have e0 := e0'
          have d0 := d0'
          have zb := zb'
          have zp := zp'
          clear HX8 e0' d0' zb' zp'
          go_upto_region 18 with fail
          refine wp_region_held_drew (S := fun w' => w'.cell? ⟨b, oo + i * 2, none⟩ = some (.int .i64 x) ∧ w'.cell? ⟨pb, po, none⟩ = some (.int .i64 X)) (by kernel_rfl) ?_ (fun hHeld => ?_)
          · exact ⟨by simpa [go_sem] using e0, by simpa [go_sem] using d0⟩
          obtain ⟨y0_, hv0⟩ : ∃ z, z = wa.drew := ⟨_, rfl⟩
          try rw [← hv0] at hHeld
          rw [← hv0]
          have bv0 : Below wa.heap.size wa y0_ := by rw [hv0]; exact Below.drew (Below.refl _ _)
          clear hv0
          have HB9 : Hid (Below wa.heap.size wa y0_) := bv0
          clear bv0
          refine wpAnyH_take (i := 0) (v := .slice (some ⟨b, oo, none⟩) m cap) rfl (by kernel_rfl) (by kernel_rfl) (by kernel_rfl) (fun _ _ _ h => h) (Or.inl ⟨by kernel_rfl, ?_⟩) hHeld ?_
          · intro w' hSw
            obtain ⟨s0_, s1_⟩ := hSw
            first | (go_simp; done) | (go_simp; with_reducible rfl) | (go_simp; rw [IntKind.wrap_i64]; omega) | (go_simp; omega)
          simp only [Act.put, List.setIfInBounds_toArray, List.set_cons_zero, List.set_cons_succ]
          refine wpAnyH_take (i := 1) (v := .slice (some ⟨b, oo, none⟩) m cap) rfl (by kernel_rfl) (by kernel_rfl) (by kernel_rfl) (fun _ _ _ h => h) (Or.inl ⟨by kernel_rfl, ?_⟩) hHeld ?_
          · intro w' hSw
            obtain ⟨s0_, s1_⟩ := hSw
            first | (go_simp; done) | (go_simp; with_reducible rfl) | (go_simp; rw [IntKind.wrap_i64]; omega) | (go_simp; omega)
          simp only [Act.put, List.setIfInBounds_toArray, List.set_cons_zero, List.set_cons_succ]
          refine wpAnyH_take (i := 2) (v := .int .i64 (i : Int)) rfl (by kernel_rfl) (by kernel_rfl) (by kernel_rfl) (fun _ _ _ h => h) (Or.inl ⟨by kernel_rfl, ?_⟩) hHeld ?_
          · intro w' hSw
            obtain ⟨s0_, s1_⟩ := hSw
            first | (go_simp; done) | (go_simp; with_reducible rfl) | (go_simp; rw [IntKind.wrap_i64]; omega) | (go_simp; omega)
          simp only [Act.put, List.setIfInBounds_toArray, List.set_cons_zero, List.set_cons_succ]
          refine wpAnyH_take (i := 3) (v := .pointer (some ⟨b, oo + i * 2, none⟩)) rfl (by kernel_rfl) (by kernel_rfl) (by kernel_rfl) (fun _ _ _ h => h) (Or.inl ⟨by kernel_rfl, ?_⟩) hHeld ?_
          · intro w' hSw
            obtain ⟨s0_, s1_⟩ := hSw
            first | (go_simp; done) | (go_simp; with_reducible rfl) | (go_simp; rw [IntKind.wrap_i64]; omega) | (go_simp; omega)
          simp only [Act.put, List.setIfInBounds_toArray, List.set_cons_zero, List.set_cons_succ]
          refine wpAnyH_take (i := 4) (v := .pointer (some ⟨b, oo + i * 2, none⟩)) rfl (by kernel_rfl) (by kernel_rfl) (by kernel_rfl) (fun _ _ _ h => h) (Or.inl ⟨by kernel_rfl, ?_⟩) hHeld ?_
          · intro w' hSw
            obtain ⟨s0_, s1_⟩ := hSw
            first | (go_simp; done) | (go_simp; with_reducible rfl) | (go_simp; rw [IntKind.wrap_i64]; omega) | (go_simp; omega)
          simp only [Act.put, List.setIfInBounds_toArray, List.set_cons_zero, List.set_cons_succ]
          refine wpAnyH_take (i := 5) (v := .int .i64 x) rfl (by kernel_rfl) (by kernel_rfl) (by kernel_rfl) (fun _ _ _ h => h) (Or.inl ⟨by kernel_rfl, ?_⟩) hHeld ?_
          · intro w' hSw
            obtain ⟨s0_, s1_⟩ := hSw
            first | (go_simp; done) | (go_simp; with_reducible rfl) | (go_simp; rw [IntKind.wrap_i64]; omega) | (go_simp; omega)
          simp only [Act.put, List.setIfInBounds_toArray, List.set_cons_zero, List.set_cons_succ]
          refine wpAnyH_take (i := 7) (v := .slice (some ⟨pb, po, none⟩) k cp) rfl (by kernel_rfl) (by kernel_rfl) (by kernel_rfl) (fun _ _ _ h => h) (Or.inl ⟨by kernel_rfl, ?_⟩) hHeld ?_
          · intro w' hSw
            obtain ⟨s0_, s1_⟩ := hSw
            first | (go_simp; done) | (go_simp; with_reducible rfl) | (go_simp; rw [IntKind.wrap_i64]; omega) | (go_simp; omega)
          simp only [Act.put, List.setIfInBounds_toArray, List.set_cons_zero, List.set_cons_succ]
          refine wpAnyH_take (i := 8) (v := .pointer (some ⟨pb, po, none⟩)) rfl (by kernel_rfl) (by kernel_rfl) (by kernel_rfl) (fun _ _ _ h => h) (Or.inl ⟨by kernel_rfl, ?_⟩) hHeld ?_
          · intro w' hSw
            obtain ⟨s0_, s1_⟩ := hSw
            first | (go_simp; done) | (go_simp; with_reducible rfl) | (go_simp; rw [IntKind.wrap_i64]; omega) | (go_simp; omega)
          simp only [Act.put, List.setIfInBounds_toArray, List.set_cons_zero, List.set_cons_succ]
          refine wpAnyH_take (i := 9) (v := .pointer (some ⟨pb, po, none⟩)) rfl (by kernel_rfl) (by kernel_rfl) (by kernel_rfl) (fun _ _ _ h => h) (Or.inl ⟨by kernel_rfl, ?_⟩) hHeld ?_
          · intro w' hSw
            obtain ⟨s0_, s1_⟩ := hSw
            first | (go_simp; done) | (go_simp; with_reducible rfl) | (go_simp; rw [IntKind.wrap_i64]; omega) | (go_simp; omega)
          simp only [Act.put, List.setIfInBounds_toArray, List.set_cons_zero, List.set_cons_succ]
          refine wpAnyH_take (i := 10) (v := .int .i64 X) rfl (by kernel_rfl) (by kernel_rfl) (by kernel_rfl) (fun _ _ _ h => h) (Or.inl ⟨by kernel_rfl, ?_⟩) hHeld ?_
          · intro w' hSw
            obtain ⟨s0_, s1_⟩ := hSw
            first | (go_simp; done) | (go_simp; with_reducible rfl) | (go_simp; rw [IntKind.wrap_i64]; omega) | (go_simp; omega)
          simp only [Act.put, List.setIfInBounds_toArray, List.set_cons_zero, List.set_cons_succ]
          refine wpAnyH_take (i := 11) (v := .float .f64 z) rfl (by kernel_rfl) (by kernel_rfl) (by kernel_rfl) (fun _ _ _ h => h) (Or.inl ⟨by kernel_rfl, ?_⟩) hHeld ?_
          · intro w' hSw
            obtain ⟨s0_, s1_⟩ := hSw
            (rw [← HZ.out]; kernel_rfl)
          simp only [Act.put, List.setIfInBounds_toArray, List.set_cons_zero, List.set_cons_succ]
          refine wpAnyH_ready (rs := [6]) (by kernel_rfl) (by simp) ?_
          refine (AllReadyH.cons rfl (fun KK hK => ?_) AllReadyH.nil)
          go_simp
          go_wp2_with (first | (go_at_call 14; refine (HSA.out _ (HM.out.below (HX.out.trans (HB9.out.mono HX.out.size)))).mono ?_; rintro e y0__1 ⟨rfl, b9⟩; replace HB9 : Hid (Below wa.heap.size wa y0__1) := HB9.out.trans (b9.mono HB9.out.size); clear b9))
          refine hK.out _ _ (⟨(HB9.out.cell (p := ⟨b, oo + i * 2, none⟩) zb).trans e0, (HB9.out.cell (p := ⟨pb, po, none⟩) zp).trans d0⟩) (fun hHeld => ?_)
          clear hK KK
          refine wpAnyH_take (i := 12) (v := .bool false) rfl (by kernel_rfl) (by kernel_rfl) (by kernel_rfl) (fun _ _ _ h => h) (Or.inl ⟨by kernel_rfl, ?_⟩) hHeld ?_
          · intro w' hSw
            obtain ⟨s0_, s1_⟩ := hSw
            first | (go_simp; done) | (go_simp; with_reducible rfl) | (go_simp; rw [IntKind.wrap_i64]; omega) | (go_simp; omega)
          simp only [Act.put, List.setIfInBounds_toArray, List.set_cons_zero, List.set_cons_succ]
          refine wpAnyH_take (i := 13) (v := .bool false) rfl (by kernel_rfl) (by kernel_rfl) (by kernel_rfl) (fun _ _ _ h => h) (Or.inl ⟨by kernel_rfl, ?_⟩) hHeld ?_
          · intro w' hSw
            obtain ⟨s0_, s1_⟩ := hSw
            first | (go_simp; done) | (go_simp; with_reducible rfl) | (go_simp; rw [IntKind.wrap_i64]; omega) | (go_simp; omega)
          simp only [Act.put, List.setIfInBounds_toArray, List.set_cons_zero, List.set_cons_succ]
          refine wpAnyH_take (i := 14) (v := .float .f64 rr) rfl (by kernel_rfl) (by kernel_rfl) (by kernel_rfl) (fun _ _ _ h => h) (Or.inl ⟨by kernel_rfl, ?_⟩) hHeld ?_
          · intro w' hSw
            obtain ⟨s0_, s1_⟩ := hSw
            first | (go_simp; done) | (go_simp; with_reducible rfl) | (go_simp; rw [IntKind.wrap_i64]; omega) | (go_simp; omega)
          simp only [Act.put, List.setIfInBounds_toArray, List.set_cons_zero, List.set_cons_succ]
          refine wpAnyH_take (i := 15) (v := .float .f64 rr) rfl (by kernel_rfl) (by kernel_rfl) (by kernel_rfl) (fun _ _ _ h => h) (Or.inl ⟨by kernel_rfl, ?_⟩) hHeld ?_
          · intro w' hSw
            obtain ⟨s0_, s1_⟩ := hSw
            first | (go_simp; done) | (go_simp; with_reducible rfl) | (go_simp; rw [IntKind.wrap_i64]; omega) | (go_simp; omega)
          simp only [Act.put, List.setIfInBounds_toArray, List.set_cons_zero, List.set_cons_succ]
          refine wpAnyH_take (i := 16) (v := .bool false) rfl (by kernel_rfl) (by kernel_rfl) (by kernel_rfl) (fun _ _ _ h => h) (Or.inl ⟨by kernel_rfl, ?_⟩) hHeld ?_
          · intro w' hSw
            obtain ⟨s0_, s1_⟩ := hSw
            first | (go_simp; done) | (go_simp; with_reducible rfl) | (go_simp; rw [IntKind.wrap_i64]; omega) | (go_simp; omega)
          simp only [Act.put, List.setIfInBounds_toArray, List.set_cons_zero, List.set_cons_succ]
          refine wpAnyH_ready (rs := [17]) (by kernel_rfl) (by simp) ?_
          refine AllReadyH.cons rfl (fun KK hK => ?_) AllReadyH.nil
          go_simp
          refine hK.out _ _ hHeld (fun hHeld => ?_)
          clear hK KK
          refine wpAnyH_done (by kernel_rfl) ?_ _
          clear hHeld
          have HX9 : Hid (Below w5.heap.size w5 y0__1) := HX.out.trans (HB9.out.mono HX.out.size)
          clear HB9
          go_wp2
          go_roundw
          case rel => exact ⟨i + 1, by omega, by go_num, HX9⟩
          case measure => simp [intOf]; omega
theorem fnOnLines_walk (w : World) (s : Option Addr) (n c : Nat) (hn : n ≤ 9223372036854775807) (R : Bytes w s n) :
    Calls Try.prog 3 #[.slice s n c] w fun e w' => e = .returned (.bool true) ∧ Below w.heap.size w w' := by
  by_cases h : n ≤ 1048576
  · exact onLines_near w s n c (by omega) (R.code h)
  · exact onLines_far w s n c (by omega)

set_option maxRecDepth 100000 in
theorem fnOnLines_lifted (os : Os) (started : os.Started) (H : Type) (enc : TypeId × Value → H) :
    ReturnsInHanded {} Try.checked os 3 .any (Rows.fnOnLinesSpec.pre6 enc Try.prog Try.f3 Rows.fnOnLinesRow.domain false) (Rows.fnOnLinesSpec.post enc Try.prog Try.f3 false true false false) := by
  refine returnsInHanded_of_change (C := Try.checked) own started (by kernel_rfl) Try.func3
    (ChangeSpec.witness6 (enc := enc) (C := Try.checked) false ⟨#[], #[.slice none 0 0], []⟩ 8 (by kernel_rfl) (by kernel_rfl) (by kernel_rfl) (by kernel_rfl)) ?_
  intro W base args ds gs before hval0 hW hcnd _
  have hval : ∀ (j : Nat) t v, Try.f3.params[j]? = some t → args[j]? = some v → Value.okWide Try.prog W .any base t v := hval0
  have hW' := hW
  obtain ⟨p, q, hA0, hV, rfl, hfz, hnd⟩ := hW
  have hA : DataW.TrodAll enc Try.prog W 0 (fun _ => true) true Try.f3.params.toList args.toList ds p := hA0
  rw [Try.params3] at hA hval
  obtain ⟨v0, vs0, d0, ds0, p0, q0, hargs, rfl, rfl, h0, r0⟩ := trodAll_cons hA
  obtain ⟨rfl, rfl, rfl⟩ := trodAll_nil r0
  obtain rfl : args = #[v0] := by cases args; simp_all
  obtain ⟨rfl, rfl⟩ := trodVars_none hV
  have k0 := h0
  have lt0 : ∀ x ∈ p0, x.block < W.heap.size := by obtain ⟨m, hm⟩ := k0; exact DataW.trod_lt m _ _ _ hm
  obtain ⟨s0, n0, c0, rfl, m0, R0⟩ := open_code Try.underlying22 Try.underlying5 (by kernel_rfl) (hval 0 22 v0 rfl rfl) h0
  clear hA0 hval0
  refine (fnOnLines_walk W s0 n0 c0 m0 R0).mono fun e W' ⟨he, bel⟩ => ?_
  subst he
  exact ⟨_, rfl, _, _, _, [], _, [], hW', trodAll_mk1 (shut_bool Try.underlying4 _), (trodAll_cons_mk (Below.trod laidOut (by kernel_rfl) (of_decide_eq_true (by kernel_rfl)) k0 bel lt0) trodAll_mk0), rfl, bel.frame _, fun h => by cases h⟩

theorem fnOnLines_holds : Rows.FnOnLinesSaid :=
  OpenClaim.holds_of_wide 3 Try.f3 rfl rfl rfl rfl rfl rfl rfl ⟨rfl, rfl, rfl, rfl, rfl⟩ rfl rfl rfl rfl rfl (by kernel_rfl) Try.func3 (by kernel_rfl)
    (of_decide_eq_true (by kernel_rfl)) (by unfold Func.isWrapper; first | (rw [if_pos (by decide +kernel)]; kernel_rfl) | (rw [if_neg (by decide +kernel)]; exact ⟨rfl, rfl⟩))
    (fun os started H enc _ => fnOnLines_lifted os started H enc)
#print axioms fnOnLines_holds
end Go.Proofs.Ytbabedfbadlhjaa
