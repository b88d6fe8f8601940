/-
What is proved: the draw of a net.
-/
import Derived.Test.YtikcfpjfcpbfcaaZcJ
import Derived.Test.YtikcfpjfcpbfcaaZcH
import Derived.Test.YtikcfpjfcpbfcaaZcC
import Derived.Test.YtikcfpjfcpbfcaaZcA
import Derived.Deep.DeepCutAuto
import Derived.Deep.RegionHeldLaw
namespace Go.Proofs.Ytikcfpjfcpbfcaa
set_option maxRecDepth 40000
open Go.ChangeShapes Go.WideShapes Go.ChangeAt Go.RowKit
set_option linter.unusedVariables false
set_option linter.unusedSimpArgs false

/-- A net, its numbers any. -/
def NetL (r : Nat) (s : Option Addr) (n c : Nat) (w W : World) (P : Int) (td : Option Addr) (nd kd : Nat) (ts : Option Addr) (ns ks : Nat) : Prop := ∃ p, Rd W r s n c p ∧ Beside r w W ∧ nd ≤ 70000 ∧ ns ≤ 10 ∧ (∃ U, Lst w.heap.size 106 2 W (.slice td nd kd) nd U) ∧ ∃ U, Lst w.heap.size 2 1 W (.slice ts ns ks) ns U
def NetPost (r : Nat) (s : Option Addr) (n c : Nat) (w : World) (e : Ending) (W : World) : Prop := ∃ (P : Int) (td : Option Addr) (nd kd : Nat) (ts : Option Addr) (ns ks : Nat), e = .returned (.agg #[.int .i64 P, .slice td nd kd, .slice ts ns ks]) ∧ NetL r s n c w W P td nd kd ts ns ks
theorem Lst.lowN {base b : Nat} {T : TypeId} {M : Nat} {w : World} {v : Value} {k : Nat} {U : Nat → Int} (h : Lst base T M w v k U) (hb : b ≤ base) : Lst b T M w v k U := by
  refine ⟨h.1, ?_⟩
  rcases h.2 with q | ⟨g, cap, cur, e1, q, r⟩
  · exact .inl q
  · exact .inr ⟨g, cap, cur, e1, by omega, r⟩
theorem NtS.out {w0 : World} {r gn gu B : Nat} {s : Option Addr} {n c : Nat} {W : World} {P : Int} {cd cs : Value} {td : Option Addr} {nd kd : Nat} {ts : Option Addr} {ns ks p : Nat} (h : NtS w0 r gn gu B s n c W P cd cs (.slice td nd kd) nd (.slice ts ns ks) ns p) (h1 : nd ≤ 70000) (h2 : ns ≤ 10) (x y z : Value) : NetL r s n c w0 (((W.setCell ⟨gu, 0, none⟩ x).setCell ⟨gu, 1, none⟩ y).setCell ⟨gu, 2, none⟩ z) P td nd kd ts ns ks := by
  obtain ⟨a1, a2, a3, a4, a5, ⟨U, a6⟩, ⟨V, a7⟩, a8⟩ := h
  have b : Beside gu W (((W.setCell ⟨gu, 0, none⟩ x).setCell ⟨gu, 1, none⟩ y).setCell ⟨gu, 2, none⟩ z) := ((Beside.setCell gu W 0 x).trans (Beside.setCell gu _ 1 y)).trans (Beside.setCell gu _ 2 z)
  have z := a2.2.2.2.1
  exact ⟨p, Rd.below' a1 (b.below (by omega) (by have := a1.1; omega)), a2.onB (b.below (by omega) z), h1, h2, ⟨U, (a6.beside b (by omega)).lowN (by omega)⟩, ⟨V, (a7.beside b (by omega)).lowN (by omega)⟩⟩
theorem Hid.of {p : Prop} (h : p) : Hid p := h
def lenC (w : World) (b i : Nat) : Nat := match w.cell? ⟨b, i, none⟩ with | some (.slice _ n _) => n | _ => 0
theorem lenC_is {w : World} {b i n c : Nat} {t : Option Addr} (h : w.cell? ⟨b, i, none⟩ = some (.slice t n c)) : lenC w b i = n := by unfold lenC; rw [h]
theorem NtS.first {w0 : World} {r gn gu B : Nat} {s : Option Addr} {n c : Nat} {W : World} {P : Int} {cd cs : Value} {td : Option Addr} {nd kd : Nat} {sv : Value} {ns p : Nat} (h : NtS w0 r gn gu B s n c W P cd cs (.slice td nd kd) nd sv ns p) (h1 : 1 ≤ nd) : ∃ g x y, td = some ⟨g, 0, none⟩ ∧ W.cell? ⟨g, 0, none⟩ = some (.int .i64 x) ∧ W.cell? ⟨g, 1, none⟩ = some (.int .i64 y) ∧ W.frozen? ⟨g, 0, none⟩ = false ∧ g < W.heap.size := by
  obtain ⟨U, hU⟩ := h.2.2.2.2.2.1
  obtain ⟨t, cap, e, ho⟩ := hU.own
  simp only [Value.slice.injEq] at e
  obtain ⟨rfl, -, rfl⟩ := e
  obtain ⟨g, e1, _, a2, a3, a4⟩ := ho 0 (by omega)
  obtain ⟨g', e2, _, b2, b3, b4⟩ := ho 1 (by omega)
  rw [e1] at e2
  cases e2
  exact ⟨g, _, _, e1, a3, b3, a4, a2⟩
def NtJ (w0 : World) (r gn gu B : Nat) (s : Option Addr) (n c : Nat) (W : World) : Prop := ∃ (P : Int) (td : Option Addr) (nd kd : Nat) (ts : Option Addr) (ns ks p : Nat), NtS w0 r gn gu B s n c W P (.slice td nd kd) (.slice ts ns ks) (.slice td nd kd) nd (.slice ts ns ks) ns p ∧ 1 ≤ nd ∧ nd ≤ 65600 ∧ ns ≤ 5 ∧ 2 ≤ P ∧ P ≤ 8
set_option maxRecDepth 20000 in
set_option maxHeartbeats 8000000 in
theorem net_any {r : Nat} {s : Option Addr} {n c p : Nat} {w : World} (h : Hid (Rd w r s n c p)) :
    Calls Try.prog 72 #[.pointer (some ⟨r, 0, none⟩)] w fun e w' => NetPost r s n c w e w' := by
  have zr : r < w.heap.size := h.out.1
  have hst := store_slT
  go_enter Try.func72, Try.ntmps72
  go_upto_region 1 with fail
  obtain ⟨wa, hwa⟩ : ∃ z, z = w.alloc (.cells #[.int .i64 0, .slice none 0 0, .slice none 0 0] 41) := ⟨_, rfl⟩
  try rw [← hwa]
  obtain ⟨gu, hgu⟩ : ∃ z, z = w.heap.size := ⟨_, rfl⟩
  have ba : Below w.heap.size w wa := by rw [hwa]; exact below0 _ _
  have HUa : Hid (Blk wa gu [.int .i64 0, .slice none 0 0, .slice none 0 0]) := by rw [hwa, hgu]; exact Blk.new w #[.int .i64 0, .slice none 0 0, .slice none 0 0] _
  have HRa : Hid (Rd wa r s n c p) := h.out.below ba
  have HBa : Hid (Beside r w wa) := Beside.of ba
  try rw [← hgu]
  have zgw : w.heap.size ≤ gu := by omega
  clear hwa ba hgu
  go_wp2_with fail
  refine (below_any 6 HRa).mono ?_
  rintro e w1 ⟨k1, p1, rfl, k10, -, k1m, R1, b1⟩
  have HR1 : Hid (Rd w1 r s n c p1) := R1
  have HU1 : Hid (Blk w1 gu [.int .i64 0, .slice none 0 0, .slice none 0 0]) := HUa.out.beside b1 (by omega)
  have HB1 : Hid (Beside r w w1) := HBa.out.trans b1
  have k16 : k1 ≤ 5 := by omega
  clear R1 b1 HRa HUa HBa k1m
  obtain ⟨P, hP⟩ : ∃ P, 2 + k1 = P := ⟨_, rfl⟩
  have wP : IntKind.i64.wrap (2 + k1) = P := by rw [IntKind.wrap_i64]; omega
  have P2 : 2 ≤ P := by omega
  have P7 : P ≤ 7 := by omega
  go_upto_region 2 with fail
  try rw [hP]
  clear hP wP k10 k16
  obtain ⟨w2, hw2⟩ : ∃ z, z = w1.alloc (.cells #[.int .i64 P, .slice none 0 0, .slice none 0 0] 41) := ⟨_, rfl⟩
  try rw [← hw2]
  obtain ⟨gn, hgn⟩ : ∃ z, z = w1.heap.size := ⟨_, rfl⟩
  have b2 : Below w1.heap.size w1 w2 := by rw [hw2]; exact below0 _ _
  have s2 : w2.heap.size = gn + 1 := by rw [hw2, hgn]; simp
  obtain ⟨B, hB⟩ : ∃ B, B = gn + 1 := ⟨_, rfl⟩
  have zgu : gu < w1.heap.size := HU1.out.1
  have H2 : Hid (NtS w r gn gu B s n c w2 (P) (.slice none 0 0) (.slice none 0 0) (.slice none 0 0) (0) (.slice none 0 0) (0) p1) := ⟨HR1.out.below b2, HB1.out.onB (b2.mono (by omega)), by rw [hw2, hgn]; exact Blk.new w1 #[.int .i64 P, .slice none 0 0, .slice none 0 0] _, HU1.out.below b2, by omega, ⟨fun _ => 0, Lst.nilN _ _ _ _ _⟩, ⟨fun _ => 0, Lst.nilN _ _ _ _ _⟩, by omega⟩
  try rw [← hgn]
  clear hw2 b2 s2 hgn hB zgu HR1 HU1 HB1
  go_cut [4] (fun v wx => ∃ (k : Nat) (p' : Nat), v = .int .i64 (k : Int) ∧ 1 ≤ k ∧ k ≤ 65536 ∧ Hid (NtS w r gn gu B s n c wx (P) (.slice none 0 0) (.slice none 0 0) (.slice none 0 0) (0) (.slice none 0 0) (0) p'))
  case first =>
    have c0 := H2.out.1.2.2.1
    have n20 := H2.out.1.2.2.2.2.2.1
    have nn : (n : Int) ≤ 1048576 := by omega
    go_wp2_with fail
    all_goals
      refine (below_any _ (H2.1)).mono ?_
      rintro e w3 ⟨k, p', rfl, k0, k65, -, R3, b3⟩
      have H3 : Hid (NtS w r gn gu B s n c w3 (P) (.slice none 0 0) (.slice none 0 0) (.slice none 0 0) (0) (.slice none 0 0) (0) p') := H2.out.call R3 b3
      obtain ⟨kN, hkN⟩ : ∃ kN : Nat, 1 + k = (kN : Int) := ⟨(1 + k).toNat, by omega⟩
      have wk : IntKind.i64.wrap (1 + k) = (kN : Int) := by rw [IntKind.wrap_i64]; omega
      have e1 : 1 ≤ kN := by omega
      have e2 : kN ≤ 65536 := by omega
      clear R3 b3 c0 n20 nn k0 k65
      go_wp2_with fail
      go_meet
      exact ⟨kN, p', (by first | rfl | rw [hkN]), e1, e2, H3⟩
  obtain ⟨k0, p2, rfl, hk1, hk2, H3⟩ := hcut
  rename World => w3
  clear H2
  go_wp2_with fail
  go_loopw [4] (fun v wr => ∃ (k nd kd q : Nat) (td : Option Addr), v = .int .i64 (k : Int) ∧ nd + k ≤ 65536 ∧ 1 ≤ nd + k ∧ Hid (NtS w r gn gu B s n c wr (P) (.slice td nd kd) (.slice none 0 0) (.slice td nd kd) (nd) (.slice none 0 0) (0) q)) (fun v _ => (intOf v).toNat)
  case atStart => exact ⟨k0, 0, 0, p2, none, rfl, by omega, by omega, H3⟩
  case round =>
    clear H3
    obtain ⟨k, nd, kd, q, td, rfl, hk3, hk4, HN⟩ := hrel
    rename World => wr
    by_cases hk : 0 < k
    case pos =>
      have ki : 0 < (k : Int) := by omega
      obtain ⟨k', hk'⟩ : ∃ k' : Nat, (k : Int) - 1 = (k' : Int) := ⟨k - 1, by omega⟩
      have wk : IntKind.i64.wrap ((k : Int) - 1) = (k' : Int) := by rw [IntKind.wrap_i64]; omega
      have hkk : k = k' + 1 := by omega
      have HKK : Hid (k = k' + 1) := hkk
      clear hkk
      have c0 := HN.out.2.2.1.2.2 0 _ rfl
      have cz := HN.out.2.2.1.1
      have PW := wfi (m := P) (by omega) (by omega)
      go_wp2_with fail
      refine (upto_any P PW HN.1).mono ?_
      rintro e w4 ⟨a, p4, rfl, a0, am, R4, b4⟩
      have H4 : Hid (NtS w r gn gu B s n c w4 (P) (.slice td nd kd) (.slice none 0 0) (.slice td nd kd) (nd) (.slice none 0 0) (0) p4) := HN.out.call R4 b4
      have a7 : a ≤ 7 := by omega
      clear R4 b4 c0 cz HN am PW
      have HCN : Hid (w4.cell? ⟨gn, 0, none⟩ = some (.int .i64 P) ∧ gn < w4.heap.size) := ⟨H4.out.2.2.1.2.2 0 _ rfl, H4.out.2.2.1.1⟩
      go_upto_region 6 with fail
      refine wp_region_held_drew (S := fun w' => w'.cell? ⟨gn, 0, none⟩ = some (.int .i64 P) ∧ gn < w'.heap.size) (by kernel_rfl) ?_ (fun hHeld => ?_)
      · exact HCN.out
      obtain ⟨v0, hv0⟩ : ∃ z, z = w4.drew := ⟨_, rfl⟩
      try rw [← hv0] at hHeld
      rw [← hv0]
      have bv0 : Below w4.heap.size w4 v0 := by rw [hv0]; exact Below.drew (Below.refl _ _)
      clear hv0
      have H5 : Hid (NtS w r gn gu B s n c v0 (P) (.slice td nd kd) (.slice none 0 0) (.slice td nd kd) (nd) (.slice none 0 0) (0) p4) := H4.out.below bv0
      clear bv0 H4 HCN
      refine wpAnyH_take (i := 0) (v := .int .i64 a) rfl (by kernel_rfl) (by kernel_rfl) (by kernel_rfl) (fun _ _ _ h => h) (Or.inl ⟨by kernel_rfl, ?_⟩) hHeld ?_
      · intro w' hSw
        obtain ⟨hc0, hz0⟩ := hSw
        first | (go_simp; done) | (go_simp; with_reducible rfl) | (go_simp; rw [IntKind.wrap_i64]; omega) | (go_simp; omega)
      simp only [Act.put, List.setIfInBounds_toArray, List.set_cons_zero, List.set_cons_succ]
      refine wpAnyH_take (i := 1) (v := .int .i64 (a + 1)) rfl (by kernel_rfl) (by kernel_rfl) (by kernel_rfl) (fun _ _ _ h => h) (Or.inl ⟨by kernel_rfl, ?_⟩) hHeld ?_
      · intro w' hSw
        obtain ⟨hc0, hz0⟩ := hSw
        first | (go_simp; done) | (go_simp; with_reducible rfl) | (go_simp; rw [IntKind.wrap_i64]; omega) | (go_simp; omega)
      simp only [Act.put, List.setIfInBounds_toArray, List.set_cons_zero, List.set_cons_succ]
      refine wpAnyH_take (i := 2) (v := .pointer (some ⟨r, 0, none⟩)) rfl (by kernel_rfl) (by kernel_rfl) (by kernel_rfl) (fun _ _ _ h => h) (Or.inl ⟨by kernel_rfl, ?_⟩) hHeld ?_
      · intro w' hSw
        obtain ⟨hc0, hz0⟩ := hSw
        first | (go_simp; done) | (go_simp; with_reducible rfl) | (go_simp; rw [IntKind.wrap_i64]; omega) | (go_simp; omega)
      simp only [Act.put, List.setIfInBounds_toArray, List.set_cons_zero, List.set_cons_succ]
      refine wpAnyH_take (i := 3) (v := .pointer (some ⟨gn, 0, none⟩)) rfl (by kernel_rfl) (by kernel_rfl) (by kernel_rfl) (fun _ _ _ h => h) (Or.inl ⟨by kernel_rfl, ?_⟩) hHeld ?_
      · intro w' hSw
        obtain ⟨hc0, hz0⟩ := hSw
        first | (go_simp; done) | (go_simp; with_reducible rfl) | (go_simp; rw [IntKind.wrap_i64]; omega) | (go_simp; omega)
      simp only [Act.put, List.setIfInBounds_toArray, List.set_cons_zero, List.set_cons_succ]
      refine wpAnyH_take (i := 4) (v := .int .i64 P) rfl (by kernel_rfl) (by kernel_rfl) (by kernel_rfl) (fun _ _ _ h => h) (Or.inl ⟨by kernel_rfl, ?_⟩) hHeld ?_
      · intro w' hSw
        obtain ⟨hc0, hz0⟩ := hSw
        first | (go_simp; done) | (go_simp; with_reducible rfl) | (go_simp; rw [IntKind.wrap_i64]; omega) | (go_simp; omega)
      simp only [Act.put, List.setIfInBounds_toArray, List.set_cons_zero, List.set_cons_succ]
      refine wpAnyH_take (i := 5) (v := .int .i64 (P - 1)) rfl (by kernel_rfl) (by kernel_rfl) (by kernel_rfl) (fun _ _ _ h => h) (Or.inl ⟨by kernel_rfl, ?_⟩) hHeld ?_
      · intro w' hSw
        obtain ⟨hc0, hz0⟩ := hSw
        first | (go_simp; done) | (go_simp; with_reducible rfl) | (go_simp; rw [IntKind.wrap_i64]; omega) | (go_simp; omega)
      simp only [Act.put, List.setIfInBounds_toArray, List.set_cons_zero, List.set_cons_succ]
      refine wpAnyH_take (i := 8) (v := .pointer (some ⟨gn, 0, none⟩)) rfl (by kernel_rfl) (by kernel_rfl) (by kernel_rfl) (fun _ _ _ h => h) (Or.inl ⟨by kernel_rfl, ?_⟩) hHeld ?_
      · intro w' hSw
        obtain ⟨hc0, hz0⟩ := hSw
        first | (go_simp; done) | (go_simp; with_reducible rfl) | (go_simp; rw [IntKind.wrap_i64]; omega) | (go_simp; omega)
      simp only [Act.put, List.setIfInBounds_toArray, List.set_cons_zero, List.set_cons_succ]
      refine wpAnyH_take (i := 9) (v := .int .i64 P) rfl (by kernel_rfl) (by kernel_rfl) (by kernel_rfl) (fun _ _ _ h => h) (Or.inl ⟨by kernel_rfl, ?_⟩) hHeld ?_
      · intro w' hSw
        obtain ⟨hc0, hz0⟩ := hSw
        first | (go_simp; done) | (go_simp; with_reducible rfl) | (go_simp; rw [IntKind.wrap_i64]; omega) | (go_simp; omega)
      simp only [Act.put, List.setIfInBounds_toArray, List.set_cons_zero, List.set_cons_succ]
      refine wpAnyH_ready (rs := [6]) (by kernel_rfl) (by simp) ?_
      refine (AllReadyH.cons rfl (fun KK hK => ?_) AllReadyH.nil)
      go_simp
      go_wp2_with (first | (go_at_call 99; refine (upto_any (P - 1) (wfi (m := P - 1) (by omega) (by omega)) H5.1).mono ?_; rintro e v0_1 ⟨x, p5, rfl, x0, xm, R5, b5⟩))
      have H6 : Hid (NtS w r gn gu B s n c v0_1 (P) (.slice td nd kd) (.slice none 0 0) (.slice td nd kd) (nd) (.slice none 0 0) (0) p5) := H5.out.call R5 b5
      have x7 : x ≤ 7 := by omega
      clear R5 b5 H5 xm
      refine hK.out _ _ (⟨H6.out.2.2.1.2.2 0 _ rfl, H6.out.2.2.1.1⟩) (fun hHeld => ?_)
      clear hK KK
      refine wpAnyH_take (i := 7) (v := .int .i64 (a + 1 + x)) rfl (by kernel_rfl) (by kernel_rfl) (by kernel_rfl) (fun _ _ _ h => h) (Or.inl ⟨by kernel_rfl, ?_⟩) hHeld ?_
      · intro w' hSw
        obtain ⟨hc0, hz0⟩ := hSw
        first | (go_simp; done) | (go_simp; with_reducible rfl) | (go_simp; rw [IntKind.wrap_i64]; omega) | (go_simp; omega)
      simp only [Act.put, List.setIfInBounds_toArray, List.set_cons_zero, List.set_cons_succ]
      refine wpAnyH_ready (rs := [10]) (by kernel_rfl) (by simp) ?_
      refine (AllReadyH.cons rfl (fun KK hK => ?_) AllReadyH.nil)
      have Pn : ¬ P = 0 := by omega
      go_simp
      refine hK.out _ _ (⟨H6.out.2.2.1.2.2 0 _ rfl, H6.out.2.2.1.1⟩) (fun hHeld => ?_)
      clear hK KK
      refine wpAnyH_ready (rs := [11]) (by kernel_rfl) (by simp) ?_
      refine AllReadyH.cons rfl (fun KK hK => ?_) AllReadyH.nil
      go_simp
      refine hK.out _ _ hHeld (fun hHeld => ?_)
      clear hK KK
      refine wpAnyH_done (by kernel_rfl) ?_ _
      clear hHeld
      have c0 := H6.out.2.2.1.2.2 0 _ rfl
      have c1 := H6.out.2.2.1.2.2 1 _ rfl
      have cz := H6.out.2.2.1.1
      have nd7 : nd ≤ 100000 := by omega
      go_upto_region 4 with (at_builtin; refine list_DuctN H6.out (.tmp 43) (.tmp 47) (by rfl) (by rfl) (by rfl) (by rfl) nd7 ?_; intro g9 cap9 w9 l9; have H9 : Hid (NtS w r gn gu B s n c w9 (P) (.slice td nd kd) (.slice none 0 0) (.slice (some ⟨g9, 0, none⟩) (nd + 1) cap9) (nd + 1) (.slice none 0 0) (0) p5) := l9; clear l9; have e9 := H9.out.2.2.1.2.2 1 _ rfl; have f9 := H9.out.2.2.1.2.1 1; have z9 := H9.out.2.2.1.1; have hst := store_slT)
      obtain ⟨w10, hw10⟩ : ∃ z, z = w9.setCell ⟨gn, 1, none⟩ (.slice (some ⟨g9, 0, none⟩) (nd + 1) cap9) := ⟨_, rfl⟩
      try rw [← hw10]
      have H10 : Hid (NtS w r gn gu B s n c w10 (P) (.slice (some ⟨g9, 0, none⟩) (nd + 1) cap9) (.slice none 0 0) (.slice (some ⟨g9, 0, none⟩) (nd + 1) cap9) (nd + 1) (.slice none 0 0) (0) p5) := by show NtS _ _ _ _ _ _ _ _ _ _ _ _ _ _ _ _ _; rw [hw10]; exact H9.out.set1 _
      clear hw10 e9 f9 z9 hst c0 c1 cz H9 H6 nd7
      go_wp2
      go_roundw
      case rel => exact ⟨k', nd + 1, cap9, p5, some ⟨g9, 0, none⟩, by go_num, by have := HKK.out; omega, by omega, H10⟩
      case measure => have := HKK.out; first | (simp [intOf]; done) | (simp [intOf]; omega)
    case neg =>
      obtain rfl : k = 0 := by omega
      have nd1 : 1 ≤ nd := by omega
      have nd6 : nd ≤ 65536 := by omega
      clear hk hk3 hk4
      have c0 := HN.out.2.2.1.2.2 0 _ rfl
      have c1 := HN.out.2.2.1.2.2 1 _ rfl
      have c2 := HN.out.2.2.1.2.2 2 _ rfl
      have cf0 := HN.out.2.2.1.2.1 0
      have cf1 := HN.out.2.2.1.2.1 1
      have cf2 := HN.out.2.2.1.2.1 2
      have cz := HN.out.2.2.1.1
      have hst := store_slT
      go_upto_region 9 with fail
      obtain ⟨w5, hw5⟩ : ∃ z, z = (wr.setCell ⟨gn, 2, none⟩ (.slice (some ⟨wr.heap.size, 0, none⟩) 1 1)).alloc (.cells #[.int .i64 0] 2) := ⟨_, rfl⟩
      try rw [← hw5]
      obtain ⟨gs, hgs⟩ : ∃ z, z = wr.heap.size := ⟨_, rfl⟩
      have H5 : Hid (NtS w r gn gu B s n c w5 (P) (.slice td nd kd) (.slice (some ⟨gs, 0, none⟩) 1 1) (.slice td nd kd) (nd) (.slice (some ⟨gs, 0, none⟩) 1 1) (1) q) := by
        have t_ := (HN.out.set2 (.slice (some ⟨gs, 0, none⟩) 1 1)).lit 0 2
        show NtS _ _ _ _ _ _ _ _ _ _ _ _ _ _ _ _ _
        rw [hw5, ← hgs]
        simpa [hgs] using t_
      try rw [← hgs]
      clear hw5 hgs HN
      clear c0 c1 c2 cf0 cf1 cf2 cz hst
      go_wp2_with fail
      refine (once_any 4 (by decide) (by decide) H5.1).mono ?_
      rintro e w6 ⟨bo, p6, rfl, R6, b6⟩
      have H6 : Hid (NtS w r gn gu B s n c w6 (P) (.slice td nd kd) (.slice (some ⟨gs, 0, none⟩) 1 1) (.slice td nd kd) (nd) (.slice (some ⟨gs, 0, none⟩) 1 1) (1) p6) := H5.out.call R6 b6
      clear R6 b6 H5
      go_upto_if 53 with fail
      go_cut [] (fun wx => NtJ w r gn gu B s n c wx)
      case first =>
        cases bo
        · go_wp2_with fail
          go_meet
          exact ⟨P, td, nd, kd, some ⟨gs, 0, none⟩, 1, 1, p6, H6.out, nd1, by omega, by omega, P2, by omega⟩
        · have PW : IntKind.i64.wrap (P - 1) = P - 1 := by rw [IntKind.wrap_i64]; omega
          have c0 := H6.out.2.2.1.2.2 0 _ rfl
          have c1 := H6.out.2.2.1.2.2 1 _ rfl
          have c2 := H6.out.2.2.1.2.2 2 _ rfl
          have cf0 := H6.out.2.2.1.2.1 0
          have cf1 := H6.out.2.2.1.2.1 1
          have cf2 := H6.out.2.2.1.2.1 2
          have cz := H6.out.2.2.1.1
          have hst := store_slT
          go_wp2_with (at_builtin; refine list_SrcN H6.out (.tmp 55) (.tmp 59) (by rfl) (by rfl) (by rfl) (by rfl) (by omega) ?_; intro g9 cap9 w9 l9; have H9 : Hid (NtS w r gn gu B s n c w9 (P) (.slice td nd kd) (.slice (some ⟨gs, 0, none⟩) 1 1) (.slice td nd kd) (nd) (.slice (some ⟨g9, 0, none⟩) (1 + 1) cap9) (1 + 1) p6) := l9; clear l9; have e9 := H9.out.2.2.1.2.2 2 _ rfl; have f9 := H9.out.2.2.1.2.1 2; have z9 := H9.out.2.2.1.1)
          go_meet
          exact ⟨P, td, nd, kd, some ⟨g9, 0, none⟩, 1 + 1, cap9, p6, H9.out.set2 _, nd1, by omega, by omega, P2, by omega⟩
      clear H6 nd1 nd6 P2 P7
      obtain ⟨P0, td0, nd0, kd0, ts0, ns0, ks0, p7, h7, nd1, nd6, ns5, P2, P8⟩ := hcut
      rename World => w7
      have H7 : Hid (NtS w r gn gu B s n c w7 (P0) (.slice td0 nd0 kd0) (.slice ts0 ns0 ks0) (.slice td0 nd0 kd0) (nd0) (.slice ts0 ns0 ks0) (ns0) p7) := h7
      clear h7
      have PW : IntKind.i64.wrap (P0 - 1) = P0 - 1 := by rw [IntKind.wrap_i64]; omega
      go_wp2_with fail
      refine (below_any 40 H7.1).mono ?_
      rintro e w8 ⟨k, p8, rfl, k0, -, -, R8, b8⟩
      have H8 : Hid (NtS w r gn gu B s n c w8 (P0) (.slice td0 nd0 kd0) (.slice ts0 ns0 ks0) (.slice td0 nd0 kd0) (nd0) (.slice ts0 ns0 ks0) (ns0) p8) := H7.out.call R8 b8
      clear R8 b8 H7 k0
      by_cases e0 : k = 0
      case pos =>
        subst e0
        obtain ⟨g, u0', u1', eg, -⟩ := H8.out.first nd1
        subst eg
        have ndi : (0 : Int) < (nd0 : Int) := by omega
        go_upto_region 13 with fail
        refine wp_region_held_drew (S := fun w' => w'.cell? ⟨gn, 0, none⟩ = some (.int .i64 P0) ∧ w'.cell? ⟨gn, 1, none⟩ = some (.slice (some ⟨g, 0, none⟩) nd0 kd0) ∧ gn < w'.heap.size) (by kernel_rfl) ?_ (fun hHeld => ?_)
        · exact ⟨H8.out.2.2.1.2.2 0 _ rfl, H8.out.2.2.1.2.2 1 _ rfl, H8.out.2.2.1.1⟩
        obtain ⟨v0, hv0⟩ : ∃ z, z = w8.drew := ⟨_, rfl⟩
        try rw [← hv0] at hHeld
        rw [← hv0]
        have bv0 : Below w8.heap.size w8 v0 := by rw [hv0]; exact Below.drew (Below.refl _ _)
        clear hv0
        have H9 : Hid (NtS w r gn gu B s n c v0 (P0) (.slice (some ⟨g, 0, none⟩) nd0 kd0) (.slice ts0 ns0 ks0) (.slice (some ⟨g, 0, none⟩) nd0 kd0) (nd0) (.slice ts0 ns0 ks0) (ns0) p8) := H8.out.below bv0
        clear bv0 H8
        refine wpAnyH_take (i := 0) (v := .pointer (some ⟨gn, 1, none⟩)) rfl (by kernel_rfl) (by kernel_rfl) (by kernel_rfl) (fun _ _ _ h => h) (Or.inl ⟨by kernel_rfl, ?_⟩) hHeld ?_
        · intro w' hSw
          obtain ⟨hc0, hc1, hz0⟩ := hSw
          first | (go_simp; done) | (go_simp; with_reducible rfl) | (go_simp; rw [IntKind.wrap_i64]; omega) | (go_simp; omega)
        simp only [Act.put, List.setIfInBounds_toArray, List.set_cons_zero, List.set_cons_succ]
        refine wpAnyH_take (i := 1) (v := .slice (some ⟨g, 0, none⟩) nd0 kd0) rfl (by kernel_rfl) (by kernel_rfl) (by kernel_rfl) (fun _ _ _ h => h) (Or.inl ⟨by kernel_rfl, ?_⟩) hHeld ?_
        · intro w' hSw
          obtain ⟨hc0, hc1, hz0⟩ := hSw
          first | (go_simp; done) | (go_simp; with_reducible rfl) | (go_simp; rw [IntKind.wrap_i64]; omega) | (go_simp; omega)
        simp only [Act.put, List.setIfInBounds_toArray, List.set_cons_zero, List.set_cons_succ]
        refine wpAnyH_take (i := 2) (v := .pointer (some ⟨r, 0, none⟩)) rfl (by kernel_rfl) (by kernel_rfl) (by kernel_rfl) (fun _ _ _ h => h) (Or.inl ⟨by kernel_rfl, ?_⟩) hHeld ?_
        · intro w' hSw
          obtain ⟨hc0, hc1, hz0⟩ := hSw
          first | (go_simp; done) | (go_simp; with_reducible rfl) | (go_simp; rw [IntKind.wrap_i64]; omega) | (go_simp; omega)
        simp only [Act.put, List.setIfInBounds_toArray, List.set_cons_zero, List.set_cons_succ]
        refine wpAnyH_take (i := 3) (v := .pointer (some ⟨gn, 0, none⟩)) rfl (by kernel_rfl) (by kernel_rfl) (by kernel_rfl) (fun _ _ _ h => h) (Or.inl ⟨by kernel_rfl, ?_⟩) hHeld ?_
        · intro w' hSw
          obtain ⟨hc0, hc1, hz0⟩ := hSw
          first | (go_simp; done) | (go_simp; with_reducible rfl) | (go_simp; rw [IntKind.wrap_i64]; omega) | (go_simp; omega)
        simp only [Act.put, List.setIfInBounds_toArray, List.set_cons_zero, List.set_cons_succ]
        refine wpAnyH_take (i := 4) (v := .int .i64 P0) rfl (by kernel_rfl) (by kernel_rfl) (by kernel_rfl) (fun _ _ _ h => h) (Or.inl ⟨by kernel_rfl, ?_⟩) hHeld ?_
        · intro w' hSw
          obtain ⟨hc0, hc1, hz0⟩ := hSw
          first | (go_simp; done) | (go_simp; with_reducible rfl) | (go_simp; rw [IntKind.wrap_i64]; omega) | (go_simp; omega)
        simp only [Act.put, List.setIfInBounds_toArray, List.set_cons_zero, List.set_cons_succ]
        refine wpAnyH_take (i := 5) (v := .int .i64 (P0 - 1)) rfl (by kernel_rfl) (by kernel_rfl) (by kernel_rfl) (fun _ _ _ h => h) (Or.inl ⟨by kernel_rfl, ?_⟩) hHeld ?_
        · intro w' hSw
          obtain ⟨hc0, hc1, hz0⟩ := hSw
          first | (go_simp; done) | (go_simp; with_reducible rfl) | (go_simp; rw [IntKind.wrap_i64]; omega) | (go_simp; omega)
        simp only [Act.put, List.setIfInBounds_toArray, List.set_cons_zero, List.set_cons_succ]
        refine wpAnyH_ready (rs := [6]) (by kernel_rfl) (by simp) ?_
        refine (AllReadyH.cons rfl (fun KK hK => ?_) AllReadyH.nil)
        go_simp
        go_wp2_with (first | (go_at_call 73; refine (off_all 0 (P0 - 1) H9.1).mono ?_; rintro e v0_1 ⟨x9, p9, rfl, R9, b9⟩))
        have HA : Hid (NtS w r gn gu B s n c v0_1 (P0) (.slice (some ⟨g, 0, none⟩) nd0 kd0) (.slice ts0 ns0 ks0) (.slice (some ⟨g, 0, none⟩) nd0 kd0) (nd0) (.slice ts0 ns0 ks0) (ns0) p9) := H9.out.call R9 b9
        clear R9 b9 H9
        refine hK.out _ _ (⟨HA.out.2.2.1.2.2 0 _ rfl, HA.out.2.2.1.2.2 1 _ rfl, HA.out.2.2.1.1⟩) (fun hHeld => ?_)
        clear hK KK
        refine wpAnyH_take (i := 7) (v := .pointer (some ⟨g, 0, none⟩)) rfl (by kernel_rfl) (by kernel_rfl) (by kernel_rfl) (fun _ _ _ h => h) (Or.inl ⟨by kernel_rfl, ?_⟩) hHeld ?_
        · intro w' hSw
          obtain ⟨hc0, hc1, hz0⟩ := hSw
          first | (go_simp; done) | (go_simp; with_reducible rfl) | (go_simp; rw [IntKind.wrap_i64]; omega) | (go_simp; omega)
        simp only [Act.put, List.setIfInBounds_toArray, List.set_cons_zero, List.set_cons_succ]
        refine wpAnyH_take (i := 8) (v := .pointer (some ⟨g, 0, none⟩)) rfl (by kernel_rfl) (by kernel_rfl) (by kernel_rfl) (fun _ _ _ h => h) (Or.inl ⟨by kernel_rfl, ?_⟩) hHeld ?_
        · intro w' hSw
          obtain ⟨hc0, hc1, hz0⟩ := hSw
          first | (go_simp; done) | (go_simp; with_reducible rfl) | (go_simp; rw [IntKind.wrap_i64]; omega) | (go_simp; omega)
        simp only [Act.put, List.setIfInBounds_toArray, List.set_cons_zero, List.set_cons_succ]
        refine wpAnyH_ready (rs := [9]) (by kernel_rfl) (by simp) ?_
        refine (AllReadyH.cons rfl (fun KK hK => ?_) AllReadyH.nil)
        obtain ⟨g', u0', u1', eg, t0, t1, tf, tz⟩ := HA.out.first nd1
        cases eg
        go_simp
        obtain ⟨v0_2, hv_⟩ : ∃ z, z = v0_1.setCell ⟨g, 0, none⟩ (.int .i64 x9) := ⟨_, rfl⟩
        rw [← hv_]
        have HBx : Hid (NtS w r gn gu B s n c v0_2 (P0) (.slice (some ⟨g, 0, none⟩) nd0 kd0) (.slice ts0 ns0 ks0) (.slice (some ⟨g, 0, none⟩) nd0 kd0) (nd0) (.slice ts0 ns0 ks0) (ns0) p9) := by show NtS _ _ _ _ _ _ _ _ _ _ _ _ _ _ _ _ _; rw [hv_]; exact HA.out.put (dv := .slice none 0 0) nd1 x9
        clear hv_ t0 t1 tf tz HA
        refine hK.out _ _ (⟨HBx.out.2.2.1.2.2 0 _ rfl, HBx.out.2.2.1.2.2 1 _ rfl, HBx.out.2.2.1.1⟩) (fun hHeld => ?_)
        clear hK KK
        refine wpAnyH_done (by kernel_rfl) ?_ _
        clear hHeld
        have c0 := HBx.out.2.2.1.2.2 0 _ rfl
        have c1 := HBx.out.2.2.1.2.2 1 _ rfl
        have c2 := HBx.out.2.2.1.2.2 2 _ rfl
        have cf0 := HBx.out.2.2.1.2.1 0
        have cf1 := HBx.out.2.2.1.2.1 1
        have cf2 := HBx.out.2.2.1.2.1 2
        have cz := HBx.out.2.2.1.1
        have hst := store_slT
        have u0 := HBx.out.2.2.2.1.2.2 0 _ rfl
        have u1 := HBx.out.2.2.2.1.2.2 1 _ rfl
        have u2 := HBx.out.2.2.2.1.2.2 2 _ rfl
        have uf0 := HBx.out.2.2.2.1.2.1 0
        have uf1 := HBx.out.2.2.2.1.2.1 1
        have uf2 := HBx.out.2.2.2.1.2.1 2
        have uz := HBx.out.2.2.2.1.1
        have HF := HBx.out.out (show (nd0 : Nat) ≤ 70000 by omega) (show (ns0 : Nat) ≤ 10 by omega) (.int .i64 (P0)) (.slice (some ⟨g, 0, none⟩) (nd0) kd0) (.slice ts0 (ns0) ks0)
        have HFH := Hid.of HF
        clear HF
        go_wp2
        refine bodyPost_ret (v := .agg #[.int .i64 (P0), .slice (some ⟨g, 0, none⟩) (nd0) kd0, .slice ts0 (ns0) ks0]) (by simp [results, Try.results72, go_sem, u0, u1, u2]) rfl ?_
        exact ⟨_, _, _, _, _, _, _, rfl, HFH.out⟩
      have b0 : (k == 0) = false := beq_false_of_ne e0
      by_cases e1 : k = 1
      case pos =>
        subst e1
        go_upto_region 15 with fail
        refine wp_region_held_drew (S := fun w' => w'.cell? ⟨gn, 0, none⟩ = some (.int .i64 P0) ∧ gn < w'.heap.size) (by kernel_rfl) ?_ (fun hHeld => ?_)
        · exact ⟨H8.out.2.2.1.2.2 0 _ rfl, H8.out.2.2.1.1⟩
        obtain ⟨r0, hv0⟩ : ∃ z, z = w8.drew := ⟨_, rfl⟩
        try rw [← hv0] at hHeld
        rw [← hv0]
        have bv0 : Below w8.heap.size w8 r0 := by rw [hv0]; exact Below.drew (Below.refl _ _)
        clear hv0
        have H9 : Hid (NtS w r gn gu B s n c r0 (P0) (.slice td0 nd0 kd0) (.slice ts0 ns0 ks0) (.slice td0 nd0 kd0) (nd0) (.slice ts0 ns0 ks0) (ns0) p8) := H8.out.below bv0
        have q9 : True := trivial
        clear bv0 H8
        refine wpAnyH_take (i := 0) (v := .pointer (some ⟨gn, 2, none⟩)) rfl (by kernel_rfl) (by kernel_rfl) (by kernel_rfl) (fun _ _ _ h => h) (Or.inl ⟨by kernel_rfl, ?_⟩) hHeld ?_
        · intro w' hSw
          obtain ⟨hc0, hz0⟩ := hSw
          first | (go_simp; done) | (go_simp; with_reducible rfl) | (go_simp; rw [IntKind.wrap_i64]; omega) | (go_simp; omega)
        simp only [Act.put, List.setIfInBounds_toArray, List.set_cons_zero, List.set_cons_succ]
        refine wpAnyH_take (i := 2) (v := .pointer (some ⟨r, 0, none⟩)) rfl (by kernel_rfl) (by kernel_rfl) (by kernel_rfl) (fun _ _ _ h => h) (Or.inl ⟨by kernel_rfl, ?_⟩) hHeld ?_
        · intro w' hSw
          obtain ⟨hc0, hz0⟩ := hSw
          first | (go_simp; done) | (go_simp; with_reducible rfl) | (go_simp; rw [IntKind.wrap_i64]; omega) | (go_simp; omega)
        simp only [Act.put, List.setIfInBounds_toArray, List.set_cons_zero, List.set_cons_succ]
        refine wpAnyH_take (i := 3) (v := .pointer (some ⟨gn, 0, none⟩)) rfl (by kernel_rfl) (by kernel_rfl) (by kernel_rfl) (fun _ _ _ h => h) (Or.inl ⟨by kernel_rfl, ?_⟩) hHeld ?_
        · intro w' hSw
          obtain ⟨hc0, hz0⟩ := hSw
          first | (go_simp; done) | (go_simp; with_reducible rfl) | (go_simp; rw [IntKind.wrap_i64]; omega) | (go_simp; omega)
        simp only [Act.put, List.setIfInBounds_toArray, List.set_cons_zero, List.set_cons_succ]
        refine wpAnyH_take (i := 4) (v := .int .i64 P0) rfl (by kernel_rfl) (by kernel_rfl) (by kernel_rfl) (fun _ _ _ h => h) (Or.inl ⟨by kernel_rfl, ?_⟩) hHeld ?_
        · intro w' hSw
          obtain ⟨hc0, hz0⟩ := hSw
          first | (go_simp; done) | (go_simp; with_reducible rfl) | (go_simp; rw [IntKind.wrap_i64]; omega) | (go_simp; omega)
        simp only [Act.put, List.setIfInBounds_toArray, List.set_cons_zero, List.set_cons_succ]
        refine wpAnyH_take (i := 5) (v := .int .i64 (P0 - 1)) rfl (by kernel_rfl) (by kernel_rfl) (by kernel_rfl) (fun _ _ _ h => h) (Or.inl ⟨by kernel_rfl, ?_⟩) hHeld ?_
        · intro w' hSw
          obtain ⟨hc0, hz0⟩ := hSw
          first | (go_simp; done) | (go_simp; with_reducible rfl) | (go_simp; rw [IntKind.wrap_i64]; omega) | (go_simp; omega)
        simp only [Act.put, List.setIfInBounds_toArray, List.set_cons_zero, List.set_cons_succ]
        refine wpAnyH_ready (rs := [1, 6]) (by kernel_rfl) (by simp) ?_
        refine (AllReadyH.cons rfl (fun KK hK => ?_) (AllReadyH.cons rfl (fun KK hK => ?_) AllReadyH.nil))
        · have hl_ := H9.out.2.2.1.2.2 2 _ rfl
          have hg_ := H9.out.2.2.1.1
          go_simp
          clear hl_ hg_
          refine hK.out _ _ (⟨H9.out.2.2.1.2.2 0 _ rfl, H9.out.2.2.1.1⟩) (fun hHeld => ?_)
          clear hK KK
          refine wpAnyH_ready (rs := [6]) (by kernel_rfl) (by simp) ?_
          refine (AllReadyH.cons rfl (fun KK hK => ?_) AllReadyH.nil)
          go_simp
          go_wp2_with (first | (go_at_call 73; refine (off_all 0 (P0 - 1) H9.1).mono ?_; rintro e r0_2 ⟨x9, p9, rfl, R9, b9⟩))
          replace H9 : Hid (NtS w r gn gu B s n c r0_2 (P0) (.slice td0 nd0 kd0) (.slice ts0 ns0 ks0) (.slice td0 nd0 kd0) (nd0) (.slice ts0 ns0 ks0) (ns0) p9) := H9.out.call R9 b9
          clear R9 b9
          refine hK.out _ _ (⟨H9.out.2.2.1.2.2 0 _ rfl, H9.out.2.2.1.1⟩) (fun hHeld => ?_)
          clear hK KK
          refine wpAnyH_ready (rs := [7]) (by kernel_rfl) (by simp) ?_
          refine (AllReadyH.cons rfl (fun KK hK => ?_) AllReadyH.nil)
          go_simp
          obtain ⟨r0_3, hv_⟩ : ∃ z, z = r0_2.alloc (.cells #[.int .i64 x9] 2) := ⟨_, rfl⟩
          rw [← hv_]
          obtain ⟨lb, hlb⟩ : ∃ z, z = r0_2.heap.size := ⟨_, rfl⟩
          have b_ : Below r0_2.heap.size r0_2 r0_3 := by rw [hv_]; exact below0 _ _
          have LB0 : r0_3.cell? ⟨lb, 0, none⟩ = some (.int .i64 x9) := by rw [hv_, hlb]; simp [go_sem]
          replace H9 : Hid (NtS w r gn gu B s n c r0_3 (P0) (.slice td0 nd0 kd0) (.slice ts0 ns0 ks0) (.slice td0 nd0 kd0) (nd0) (.slice ts0 ns0 ks0) (ns0) p9) := H9.out.below b_
          try rw [← hlb]
          clear hv_ hlb b_
          refine hK.out _ _ (⟨H9.out.2.2.1.2.2 0 _ rfl, H9.out.2.2.1.1⟩) (fun hHeld => ?_)
          clear hK KK
          refine wpAnyH_ready (rs := [8]) (by kernel_rfl) (by simp) ?_
          refine (AllReadyH.cons rfl (fun KK hK => ?_) AllReadyH.nil)
          refine wp_Src H9.out (.tmp 78) (.tmp 84) (by rfl) (by rfl) lb (by rfl) LB0 (by omega) ?_
          intro g9 cap9 r0_4 l9
          have HA : Hid (NtS w r gn gu B s n c r0_4 (P0) (.slice td0 nd0 kd0) (.slice ts0 ns0 ks0) (.slice td0 nd0 kd0) (nd0) (.slice (some ⟨g9, 0, none⟩) (ns0 + 1) cap9) (ns0 + 1) p9) := l9
          clear l9 LB0 H9
          go_simp
          refine hK.out _ _ (⟨HA.out.2.2.1.2.2 0 _ rfl, HA.out.2.2.1.1⟩) (fun hHeld => ?_)
          clear hK KK
          refine wpAnyH_take (i := 9) (v := .pointer (some ⟨gn, 2, none⟩)) rfl (by kernel_rfl) (by kernel_rfl) (by kernel_rfl) (fun _ _ _ h => h) (Or.inl ⟨by kernel_rfl, ?_⟩) hHeld ?_
          · intro w' hSw
            obtain ⟨hc0, hz0⟩ := hSw
            first | (go_simp; done) | (go_simp; with_reducible rfl) | (go_simp; rw [IntKind.wrap_i64]; omega) | (go_simp; omega)
          simp only [Act.put, List.setIfInBounds_toArray, List.set_cons_zero, List.set_cons_succ]
          refine wpAnyH_ready (rs := [10]) (by kernel_rfl) (by simp) ?_
          refine (AllReadyH.cons rfl (fun KK hK => ?_) AllReadyH.nil)
          have hl_ := HA.out.2.2.1.2.2 2 _ rfl
          have hf_ := HA.out.2.2.1.2.1 2
          have hg_ := HA.out.2.2.1.1
          have hst := store_slT
          go_simp
          obtain ⟨r0_5, hv_⟩ : ∃ z, z = r0_4.setCell ⟨gn, 2, none⟩ (.slice (some ⟨g9, 0, none⟩) (ns0 + 1) cap9) := ⟨_, rfl⟩
          rw [← hv_]
          have HBx : Hid (NtS w r gn gu B s n c r0_5 (P0) (.slice td0 nd0 kd0) (.slice (some ⟨g9, 0, none⟩) (ns0 + 1) cap9) (.slice td0 nd0 kd0) (nd0) (.slice (some ⟨g9, 0, none⟩) (ns0 + 1) cap9) (ns0 + 1) p9) := by show NtS _ _ _ _ _ _ _ _ _ _ _ _ _ _ _ _ _; rw [hv_]; exact HA.out.set2 _
          clear hv_ hl_ hf_ hg_ hst HA
          refine hK.out _ _ (⟨HBx.out.2.2.1.2.2 0 _ rfl, HBx.out.2.2.1.1⟩) (fun hHeld => ?_)
          clear hK KK
          refine wpAnyH_done (by kernel_rfl) ?_ _
          clear hHeld
          have c0 := HBx.out.2.2.1.2.2 0 _ rfl
          have c1 := HBx.out.2.2.1.2.2 1 _ rfl
          have c2 := HBx.out.2.2.1.2.2 2 _ rfl
          have cf0 := HBx.out.2.2.1.2.1 0
          have cf1 := HBx.out.2.2.1.2.1 1
          have cf2 := HBx.out.2.2.1.2.1 2
          have cz := HBx.out.2.2.1.1
          have hst := store_slT
          have u0 := HBx.out.2.2.2.1.2.2 0 _ rfl
          have u1 := HBx.out.2.2.2.1.2.2 1 _ rfl
          have u2 := HBx.out.2.2.2.1.2.2 2 _ rfl
          have uf0 := HBx.out.2.2.2.1.2.1 0
          have uf1 := HBx.out.2.2.2.1.2.1 1
          have uf2 := HBx.out.2.2.2.1.2.1 2
          have uz := HBx.out.2.2.2.1.1
          have HF := HBx.out.out (show (nd0 : Nat) ≤ 70000 by omega) (show (ns0 + 1 : Nat) ≤ 10 by omega) (.int .i64 (P0)) (.slice td0 (nd0) kd0) (.slice (some ⟨g9, 0, none⟩) (ns0 + 1) cap9)
          have HFH := Hid.of HF
          clear HF
          go_wp2
          refine bodyPost_ret (v := .agg #[.int .i64 (P0), .slice td0 (nd0) kd0, .slice (some ⟨g9, 0, none⟩) (ns0 + 1) cap9]) (by simp [results, Try.results72, go_sem, u0, u1, u2]) rfl ?_
          exact ⟨_, _, _, _, _, _, _, rfl, HFH.out⟩
        · go_simp
          go_wp2_with (first | (go_at_call 73; refine (off_all 0 (P0 - 1) H9.1).mono ?_; rintro e r0_6 ⟨x9, p9, rfl, R9, b9⟩))
          replace H9 : Hid (NtS w r gn gu B s n c r0_6 (P0) (.slice td0 nd0 kd0) (.slice ts0 ns0 ks0) (.slice td0 nd0 kd0) (nd0) (.slice ts0 ns0 ks0) (ns0) p9) := H9.out.call R9 b9
          clear R9 b9
          refine hK.out _ _ (⟨H9.out.2.2.1.2.2 0 _ rfl, H9.out.2.2.1.1⟩) (fun hHeld => ?_)
          clear hK KK
          refine wpAnyH_ready (rs := [1, 7]) (by kernel_rfl) (by simp) ?_
          refine (AllReadyH.cons rfl (fun KK hK => ?_) (AllReadyH.cons rfl (fun KK hK => ?_) AllReadyH.nil))
          · have hl_ := H9.out.2.2.1.2.2 2 _ rfl
            have hg_ := H9.out.2.2.1.1
            go_simp
            clear hl_ hg_
            refine hK.out _ _ (⟨H9.out.2.2.1.2.2 0 _ rfl, H9.out.2.2.1.1⟩) (fun hHeld => ?_)
            clear hK KK
            refine wpAnyH_ready (rs := [7]) (by kernel_rfl) (by simp) ?_
            refine (AllReadyH.cons rfl (fun KK hK => ?_) AllReadyH.nil)
            go_simp
            obtain ⟨r0_8, hv_⟩ : ∃ z, z = r0_6.alloc (.cells #[.int .i64 x9] 2) := ⟨_, rfl⟩
            rw [← hv_]
            obtain ⟨lb, hlb⟩ : ∃ z, z = r0_6.heap.size := ⟨_, rfl⟩
            have b_ : Below r0_6.heap.size r0_6 r0_8 := by rw [hv_]; exact below0 _ _
            have LB0 : r0_8.cell? ⟨lb, 0, none⟩ = some (.int .i64 x9) := by rw [hv_, hlb]; simp [go_sem]
            replace H9 : Hid (NtS w r gn gu B s n c r0_8 (P0) (.slice td0 nd0 kd0) (.slice ts0 ns0 ks0) (.slice td0 nd0 kd0) (nd0) (.slice ts0 ns0 ks0) (ns0) p9) := H9.out.below b_
            try rw [← hlb]
            clear hv_ hlb b_
            refine hK.out _ _ (⟨H9.out.2.2.1.2.2 0 _ rfl, H9.out.2.2.1.1⟩) (fun hHeld => ?_)
            clear hK KK
            refine wpAnyH_ready (rs := [8]) (by kernel_rfl) (by simp) ?_
            refine (AllReadyH.cons rfl (fun KK hK => ?_) AllReadyH.nil)
            refine wp_Src H9.out (.tmp 78) (.tmp 84) (by rfl) (by rfl) lb (by rfl) LB0 (by omega) ?_
            intro g9 cap9 r0_9 l9
            have HA : Hid (NtS w r gn gu B s n c r0_9 (P0) (.slice td0 nd0 kd0) (.slice ts0 ns0 ks0) (.slice td0 nd0 kd0) (nd0) (.slice (some ⟨g9, 0, none⟩) (ns0 + 1) cap9) (ns0 + 1) p9) := l9
            clear l9 LB0 H9
            go_simp
            refine hK.out _ _ (⟨HA.out.2.2.1.2.2 0 _ rfl, HA.out.2.2.1.1⟩) (fun hHeld => ?_)
            clear hK KK
            refine wpAnyH_take (i := 9) (v := .pointer (some ⟨gn, 2, none⟩)) rfl (by kernel_rfl) (by kernel_rfl) (by kernel_rfl) (fun _ _ _ h => h) (Or.inl ⟨by kernel_rfl, ?_⟩) hHeld ?_
            · intro w' hSw
              obtain ⟨hc0, hz0⟩ := hSw
              first | (go_simp; done) | (go_simp; with_reducible rfl) | (go_simp; rw [IntKind.wrap_i64]; omega) | (go_simp; omega)
            simp only [Act.put, List.setIfInBounds_toArray, List.set_cons_zero, List.set_cons_succ]
            refine wpAnyH_ready (rs := [10]) (by kernel_rfl) (by simp) ?_
            refine (AllReadyH.cons rfl (fun KK hK => ?_) AllReadyH.nil)
            have hl_ := HA.out.2.2.1.2.2 2 _ rfl
            have hf_ := HA.out.2.2.1.2.1 2
            have hg_ := HA.out.2.2.1.1
            have hst := store_slT
            go_simp
            obtain ⟨r0_10, hv_⟩ : ∃ z, z = r0_9.setCell ⟨gn, 2, none⟩ (.slice (some ⟨g9, 0, none⟩) (ns0 + 1) cap9) := ⟨_, rfl⟩
            rw [← hv_]
            have HBx : Hid (NtS w r gn gu B s n c r0_10 (P0) (.slice td0 nd0 kd0) (.slice (some ⟨g9, 0, none⟩) (ns0 + 1) cap9) (.slice td0 nd0 kd0) (nd0) (.slice (some ⟨g9, 0, none⟩) (ns0 + 1) cap9) (ns0 + 1) p9) := by show NtS _ _ _ _ _ _ _ _ _ _ _ _ _ _ _ _ _; rw [hv_]; exact HA.out.set2 _
            clear hv_ hl_ hf_ hg_ hst HA
            refine hK.out _ _ (⟨HBx.out.2.2.1.2.2 0 _ rfl, HBx.out.2.2.1.1⟩) (fun hHeld => ?_)
            clear hK KK
            refine wpAnyH_done (by kernel_rfl) ?_ _
            clear hHeld
            have c0 := HBx.out.2.2.1.2.2 0 _ rfl
            have c1 := HBx.out.2.2.1.2.2 1 _ rfl
            have c2 := HBx.out.2.2.1.2.2 2 _ rfl
            have cf0 := HBx.out.2.2.1.2.1 0
            have cf1 := HBx.out.2.2.1.2.1 1
            have cf2 := HBx.out.2.2.1.2.1 2
            have cz := HBx.out.2.2.1.1
            have hst := store_slT
            have u0 := HBx.out.2.2.2.1.2.2 0 _ rfl
            have u1 := HBx.out.2.2.2.1.2.2 1 _ rfl
            have u2 := HBx.out.2.2.2.1.2.2 2 _ rfl
            have uf0 := HBx.out.2.2.2.1.2.1 0
            have uf1 := HBx.out.2.2.2.1.2.1 1
            have uf2 := HBx.out.2.2.2.1.2.1 2
            have uz := HBx.out.2.2.2.1.1
            have HF := HBx.out.out (show (nd0 : Nat) ≤ 70000 by omega) (show (ns0 + 1 : Nat) ≤ 10 by omega) (.int .i64 (P0)) (.slice td0 (nd0) kd0) (.slice (some ⟨g9, 0, none⟩) (ns0 + 1) cap9)
            have HFH := Hid.of HF
            clear HF
            go_wp2
            refine bodyPost_ret (v := .agg #[.int .i64 (P0), .slice td0 (nd0) kd0, .slice (some ⟨g9, 0, none⟩) (ns0 + 1) cap9]) (by simp [results, Try.results72, go_sem, u0, u1, u2]) rfl ?_
            exact ⟨_, _, _, _, _, _, _, rfl, HFH.out⟩
          · go_simp
            obtain ⟨r0_11, hv_⟩ : ∃ z, z = r0_6.alloc (.cells #[.int .i64 x9] 2) := ⟨_, rfl⟩
            rw [← hv_]
            obtain ⟨lb, hlb⟩ : ∃ z, z = r0_6.heap.size := ⟨_, rfl⟩
            have b_ : Below r0_6.heap.size r0_6 r0_11 := by rw [hv_]; exact below0 _ _
            have LB0 : r0_11.cell? ⟨lb, 0, none⟩ = some (.int .i64 x9) := by rw [hv_, hlb]; simp [go_sem]
            replace H9 : Hid (NtS w r gn gu B s n c r0_11 (P0) (.slice td0 nd0 kd0) (.slice ts0 ns0 ks0) (.slice td0 nd0 kd0) (nd0) (.slice ts0 ns0 ks0) (ns0) p9) := H9.out.below b_
            try rw [← hlb]
            clear hv_ hlb b_
            refine hK.out _ _ (⟨H9.out.2.2.1.2.2 0 _ rfl, H9.out.2.2.1.1⟩) (fun hHeld => ?_)
            clear hK KK
            refine wpAnyH_ready (rs := [1]) (by kernel_rfl) (by simp) ?_
            refine (AllReadyH.cons rfl (fun KK hK => ?_) AllReadyH.nil)
            have hl_ := H9.out.2.2.1.2.2 2 _ rfl
            have hg_ := H9.out.2.2.1.1
            go_simp
            clear hl_ hg_
            refine hK.out _ _ (⟨H9.out.2.2.1.2.2 0 _ rfl, H9.out.2.2.1.1⟩) (fun hHeld => ?_)
            clear hK KK
            refine wpAnyH_ready (rs := [8]) (by kernel_rfl) (by simp) ?_
            refine (AllReadyH.cons rfl (fun KK hK => ?_) AllReadyH.nil)
            refine wp_Src H9.out (.tmp 78) (.tmp 84) (by rfl) (by rfl) lb (by rfl) LB0 (by omega) ?_
            intro g9 cap9 r0_13 l9
            have HA : Hid (NtS w r gn gu B s n c r0_13 (P0) (.slice td0 nd0 kd0) (.slice ts0 ns0 ks0) (.slice td0 nd0 kd0) (nd0) (.slice (some ⟨g9, 0, none⟩) (ns0 + 1) cap9) (ns0 + 1) p9) := l9
            clear l9 LB0 H9
            go_simp
            refine hK.out _ _ (⟨HA.out.2.2.1.2.2 0 _ rfl, HA.out.2.2.1.1⟩) (fun hHeld => ?_)
            clear hK KK
            refine wpAnyH_take (i := 9) (v := .pointer (some ⟨gn, 2, none⟩)) rfl (by kernel_rfl) (by kernel_rfl) (by kernel_rfl) (fun _ _ _ h => h) (Or.inl ⟨by kernel_rfl, ?_⟩) hHeld ?_
            · intro w' hSw
              obtain ⟨hc0, hz0⟩ := hSw
              first | (go_simp; done) | (go_simp; with_reducible rfl) | (go_simp; rw [IntKind.wrap_i64]; omega) | (go_simp; omega)
            simp only [Act.put, List.setIfInBounds_toArray, List.set_cons_zero, List.set_cons_succ]
            refine wpAnyH_ready (rs := [10]) (by kernel_rfl) (by simp) ?_
            refine (AllReadyH.cons rfl (fun KK hK => ?_) AllReadyH.nil)
            have hl_ := HA.out.2.2.1.2.2 2 _ rfl
            have hf_ := HA.out.2.2.1.2.1 2
            have hg_ := HA.out.2.2.1.1
            have hst := store_slT
            go_simp
            obtain ⟨r0_14, hv_⟩ : ∃ z, z = r0_13.setCell ⟨gn, 2, none⟩ (.slice (some ⟨g9, 0, none⟩) (ns0 + 1) cap9) := ⟨_, rfl⟩
            rw [← hv_]
            have HBx : Hid (NtS w r gn gu B s n c r0_14 (P0) (.slice td0 nd0 kd0) (.slice (some ⟨g9, 0, none⟩) (ns0 + 1) cap9) (.slice td0 nd0 kd0) (nd0) (.slice (some ⟨g9, 0, none⟩) (ns0 + 1) cap9) (ns0 + 1) p9) := by show NtS _ _ _ _ _ _ _ _ _ _ _ _ _ _ _ _ _; rw [hv_]; exact HA.out.set2 _
            clear hv_ hl_ hf_ hg_ hst HA
            refine hK.out _ _ (⟨HBx.out.2.2.1.2.2 0 _ rfl, HBx.out.2.2.1.1⟩) (fun hHeld => ?_)
            clear hK KK
            refine wpAnyH_done (by kernel_rfl) ?_ _
            clear hHeld
            have c0 := HBx.out.2.2.1.2.2 0 _ rfl
            have c1 := HBx.out.2.2.1.2.2 1 _ rfl
            have c2 := HBx.out.2.2.1.2.2 2 _ rfl
            have cf0 := HBx.out.2.2.1.2.1 0
            have cf1 := HBx.out.2.2.1.2.1 1
            have cf2 := HBx.out.2.2.1.2.1 2
            have cz := HBx.out.2.2.1.1
            have hst := store_slT
            have u0 := HBx.out.2.2.2.1.2.2 0 _ rfl
            have u1 := HBx.out.2.2.2.1.2.2 1 _ rfl
            have u2 := HBx.out.2.2.2.1.2.2 2 _ rfl
            have uf0 := HBx.out.2.2.2.1.2.1 0
            have uf1 := HBx.out.2.2.2.1.2.1 1
            have uf2 := HBx.out.2.2.2.1.2.1 2
            have uz := HBx.out.2.2.2.1.1
            have HF := HBx.out.out (show (nd0 : Nat) ≤ 70000 by omega) (show (ns0 + 1 : Nat) ≤ 10 by omega) (.int .i64 (P0)) (.slice td0 (nd0) kd0) (.slice (some ⟨g9, 0, none⟩) (ns0 + 1) cap9)
            have HFH := Hid.of HF
            clear HF
            go_wp2
            refine bodyPost_ret (v := .agg #[.int .i64 (P0), .slice td0 (nd0) kd0, .slice (some ⟨g9, 0, none⟩) (ns0 + 1) cap9]) (by simp [results, Try.results72, go_sem, u0, u1, u2]) rfl ?_
            exact ⟨_, _, _, _, _, _, _, rfl, HFH.out⟩
      have b1 : (k == 1) = false := beq_false_of_ne e1
      by_cases e2 : k = 2
      case pos =>
        subst e2
        go_wp2_with fail
        refine (off_all 1 30 H8.1).mono ?_
        rintro e w9 ⟨x9, p9, rfl, R9, b9⟩
        have H9 : Hid (NtS w r gn gu B s n c w9 (P0) (.slice td0 nd0 kd0) (.slice ts0 ns0 ks0) (.slice td0 nd0 kd0) (nd0) (.slice ts0 ns0 ks0) (ns0) p9) := H8.out.call R9 b9
        clear R9 b9 H8
        have c0 := H9.out.2.2.1.2.2 0 _ rfl
        have c1 := H9.out.2.2.1.2.2 1 _ rfl
        have c2 := H9.out.2.2.1.2.2 2 _ rfl
        have cf0 := H9.out.2.2.1.2.1 0
        have cf1 := H9.out.2.2.1.2.1 1
        have cf2 := H9.out.2.2.1.2.1 2
        have cz := H9.out.2.2.1.1
        have hst := store_slT
        go_upto_region 24 with fail
        obtain ⟨w10, hw10⟩ : ∃ z, z = w9.setCell ⟨gn, 0, none⟩ (.int .i64 x9) := ⟨_, rfl⟩
        try rw [← hw10]
        have H10 : Hid (NtS w r gn gu B s n c w10 (x9) (.slice td0 nd0 kd0) (.slice ts0 ns0 ks0) (.slice td0 nd0 kd0) (nd0) (.slice ts0 ns0 ks0) (ns0) p9) := by show NtS _ _ _ _ _ _ _ _ _ _ _ _ _ _ _ _ _; rw [hw10]; exact H9.out.set0 _
        clear hw10
        clear c0 c1 c2 cf0 cf1 cf2 cz hst
        have c0 := H10.out.2.2.1.2.2 0 _ rfl
        have c1 := H10.out.2.2.1.2.2 1 _ rfl
        have c2 := H10.out.2.2.1.2.2 2 _ rfl
        have cf0 := H10.out.2.2.1.2.1 0
        have cf1 := H10.out.2.2.1.2.1 1
        have cf2 := H10.out.2.2.1.2.1 2
        have cz := H10.out.2.2.1.1
        have hst := store_slT
        have u0 := H10.out.2.2.2.1.2.2 0 _ rfl
        have u1 := H10.out.2.2.2.1.2.2 1 _ rfl
        have u2 := H10.out.2.2.2.1.2.2 2 _ rfl
        have uf0 := H10.out.2.2.2.1.2.1 0
        have uf1 := H10.out.2.2.2.1.2.1 1
        have uf2 := H10.out.2.2.2.1.2.1 2
        have uz := H10.out.2.2.2.1.1
        have HF := H10.out.out (show (nd0 : Nat) ≤ 70000 by omega) (show (ns0 : Nat) ≤ 10 by omega) (.int .i64 (x9)) (.slice td0 (nd0) kd0) (.slice ts0 (ns0) ks0)
        have HFH := Hid.of HF
        clear HF
        go_wp2
        refine bodyPost_ret (v := .agg #[.int .i64 (x9), .slice td0 (nd0) kd0, .slice ts0 (ns0) ks0]) (by simp [results, Try.results72, go_sem, u0, u1, u2]) rfl ?_
        exact ⟨_, _, _, _, _, _, _, rfl, HFH.out⟩
      have b2 : (k == 2) = false := beq_false_of_ne e2
      by_cases e3 : k = 3
      case pos =>
        subst e3
        have c0 := H8.out.2.2.1.2.2 0 _ rfl
        have c1 := H8.out.2.2.1.2.2 1 _ rfl
        have c2 := H8.out.2.2.1.2.2 2 _ rfl
        have cf0 := H8.out.2.2.1.2.1 0
        have cf1 := H8.out.2.2.1.2.1 1
        have cf2 := H8.out.2.2.1.2.1 2
        have cz := H8.out.2.2.1.1
        have hst := store_slT
        go_upto_region 24 with fail
        obtain ⟨w10, hw10⟩ : ∃ z, z = w8.setCell ⟨gn, 2, none⟩ (.slice none 0 0) := ⟨_, rfl⟩
        try rw [← hw10]
        have H10 : Hid (NtS w r gn gu B s n c w10 (P0) (.slice td0 nd0 kd0) (.slice none 0 0) (.slice td0 nd0 kd0) (nd0) (.slice none 0 0) (0) p8) := by show NtS _ _ _ _ _ _ _ _ _ _ _ _ _ _ _ _ _; rw [hw10]; exact (H8.out.set2 _).nosrc
        clear hw10
        clear c0 c1 c2 cf0 cf1 cf2 cz hst
        have c0 := H10.out.2.2.1.2.2 0 _ rfl
        have c1 := H10.out.2.2.1.2.2 1 _ rfl
        have c2 := H10.out.2.2.1.2.2 2 _ rfl
        have cf0 := H10.out.2.2.1.2.1 0
        have cf1 := H10.out.2.2.1.2.1 1
        have cf2 := H10.out.2.2.1.2.1 2
        have cz := H10.out.2.2.1.1
        have hst := store_slT
        have u0 := H10.out.2.2.2.1.2.2 0 _ rfl
        have u1 := H10.out.2.2.2.1.2.2 1 _ rfl
        have u2 := H10.out.2.2.2.1.2.2 2 _ rfl
        have uf0 := H10.out.2.2.2.1.2.1 0
        have uf1 := H10.out.2.2.2.1.2.1 1
        have uf2 := H10.out.2.2.2.1.2.1 2
        have uz := H10.out.2.2.2.1.1
        have HF := H10.out.out (show (nd0 : Nat) ≤ 70000 by omega) (show (0 : Nat) ≤ 10 by omega) (.int .i64 (P0)) (.slice td0 (nd0) kd0) (.slice none (0) 0)
        have HFH := Hid.of HF
        clear HF
        go_wp2
        refine bodyPost_ret (v := .agg #[.int .i64 (P0), .slice td0 (nd0) kd0, .slice none (0) 0]) (by simp [results, Try.results72, go_sem, u0, u1, u2]) rfl ?_
        exact ⟨_, _, _, _, _, _, _, rfl, HFH.out⟩
      have b3 : (k == 3) = false := beq_false_of_ne e3
      by_cases e4 : k = 4
      case pos =>
        subst e4
        go_wp2_with fail
        refine (below_any 2 H8.1).mono ?_
        rintro e w9 ⟨k9, p9, rfl, k90, -, k9m, R9, b9⟩
        have H9 : Hid (NtS w r gn gu B s n c w9 (P0) (.slice td0 nd0 kd0) (.slice ts0 ns0 ks0) (.slice td0 nd0 kd0) (nd0) (.slice ts0 ns0 ks0) (ns0) p9) := H8.out.call R9 b9
        obtain ⟨mN, hmN⟩ : ∃ mN : Nat, 14 + k9 = (mN : Int) := ⟨(14 + k9).toNat, by omega⟩
        have wm : IntKind.i64.wrap (14 + k9) = (mN : Int) := by rw [IntKind.wrap_i64]; omega
        have mN16 : mN ≤ 16 := by omega
        clear R9 b9 H8 k90 k9m
        go_upto_region 22 with fail
        try rw [hmN]
        clear hmN wm
        go_loopw [] (fun wr => ∃ (nd kd : Nat) (td : Option Addr), 1 ≤ nd ∧ nd ≤ 65620 ∧ Hid (NtS w r gn gu B s n c wr (P0) (.slice td nd kd) (.slice ts0 ns0 ks0) (.slice td nd kd) (nd) (.slice ts0 ns0 ks0) (ns0) p9)) (fun wr => mN - lenC wr gn 1)
        case atStart => exact ⟨nd0, kd0, td0, nd1, by omega, H9⟩
        case round =>
          clear H9 nd1 nd6
          obtain ⟨nd, kd, td, nd1, nd6, HN⟩ := hrel
          rename World => wr
          by_cases hl : nd < mN
          case pos =>
            have li : (nd : Int) < (mN : Int) := by omega
            have HLN : Hid (lenC wr gn 1 = nd) := lenC_is (HN.out.2.2.1.2.2 1 _ rfl)
            have ndi : (0 : Int) < (nd : Int) := by omega
            obtain ⟨g, u0', u1', eg, -⟩ := HN.out.first nd1
            subst eg
            have c1 := HN.out.2.2.1.2.2 1 _ rfl
            have cz := HN.out.2.2.1.1
            go_upto_region 23 with fail
            clear c1 cz
            refine wp_region_held_drew (S := fun w' => gn < w'.heap.size ∧ True) (by kernel_rfl) ?_ (fun hHeld => ?_)
            · exact ⟨HN.out.2.2.1.1, trivial⟩
            obtain ⟨q0, hv0⟩ : ∃ z, z = wr.drew := ⟨_, rfl⟩
            try rw [← hv0] at hHeld
            rw [← hv0]
            have bv0 : Below wr.heap.size wr q0 := by rw [hv0]; exact Below.drew (Below.refl _ _)
            clear hv0
            have H9 : Hid (NtS w r gn gu B s n c q0 (P0) (.slice (some ⟨g, 0, none⟩) nd kd) (.slice ts0 ns0 ks0) (.slice (some ⟨g, 0, none⟩) nd kd) (nd) (.slice ts0 ns0 ks0) (ns0) p9) := HN.out.below bv0
            clear bv0 HN
            refine wpAnyH_take (i := 0) (v := .pointer (some ⟨gn, 1, none⟩)) rfl (by kernel_rfl) (by kernel_rfl) (by kernel_rfl) (fun _ _ _ h => h) (Or.inl ⟨by kernel_rfl, ?_⟩) hHeld ?_
            · intro w' hSw
              obtain ⟨hz0, htr⟩ := hSw
              first | (go_simp; done) | (go_simp; with_reducible rfl) | (go_simp; rw [IntKind.wrap_i64]; omega) | (go_simp; omega)
            simp only [Act.put, List.setIfInBounds_toArray, List.set_cons_zero, List.set_cons_succ]
            refine wpAnyH_take (i := 2) (v := .pointer (some ⟨gn, 1, none⟩)) rfl (by kernel_rfl) (by kernel_rfl) (by kernel_rfl) (fun _ _ _ h => h) (Or.inl ⟨by kernel_rfl, ?_⟩) hHeld ?_
            · intro w' hSw
              obtain ⟨hz0, htr⟩ := hSw
              first | (go_simp; done) | (go_simp; with_reducible rfl) | (go_simp; rw [IntKind.wrap_i64]; omega) | (go_simp; omega)
            simp only [Act.put, List.setIfInBounds_toArray, List.set_cons_zero, List.set_cons_succ]
            refine wpAnyH_ready (rs := [1, 3]) (by kernel_rfl) (by simp) ?_
            refine (AllReadyH.cons rfl (fun KK hK => ?_) (AllReadyH.cons rfl (fun KK hK => ?_) AllReadyH.nil))
            · have hl_ := H9.out.2.2.1.2.2 1 _ rfl
              have hg_ := H9.out.2.2.1.1
              go_simp
              clear hl_ hg_
              refine hK.out _ _ (⟨H9.out.2.2.1.1, trivial⟩) (fun hHeld => ?_)
              clear hK KK
              refine wpAnyH_ready (rs := [3]) (by kernel_rfl) (by simp) ?_
              refine (AllReadyH.cons rfl (fun KK hK => ?_) AllReadyH.nil)
              have hl_ := H9.out.2.2.1.2.2 1 _ rfl
              have hg_ := H9.out.2.2.1.1
              go_simp
              clear hl_ hg_
              refine hK.out _ _ (⟨H9.out.2.2.1.1, trivial⟩) (fun hHeld => ?_)
              clear hK KK
              refine wpAnyH_take (i := 4) (v := .pointer (some ⟨g, 0, none⟩)) rfl (by kernel_rfl) (by kernel_rfl) (by kernel_rfl) (fun _ _ _ h => h) (Or.inl ⟨by kernel_rfl, ?_⟩) hHeld ?_
              · intro w' hSw
                obtain ⟨hz0, htr⟩ := hSw
                first | (go_simp; done) | (go_simp; with_reducible rfl) | (go_simp; rw [IntKind.wrap_i64]; omega) | (go_simp; omega)
              simp only [Act.put, List.setIfInBounds_toArray, List.set_cons_zero, List.set_cons_succ]
              refine wpAnyH_ready (rs := [5]) (by kernel_rfl) (by simp) ?_
              refine (AllReadyH.cons rfl (fun KK hK => ?_) AllReadyH.nil)
              obtain ⟨g', u0, u1, eg, t0, t1, tf, tz⟩ := H9.out.first nd1
              cases eg
              go_simp
              clear t0 t1 tf tz
              refine hK.out _ _ (⟨H9.out.2.2.1.1, trivial⟩) (fun hHeld => ?_)
              clear hK KK
              refine wpAnyH_ready (rs := [6]) (by kernel_rfl) (by simp) ?_
              refine (AllReadyH.cons rfl (fun KK hK => ?_) AllReadyH.nil)
              go_simp
              obtain ⟨q0_4, hv_⟩ : ∃ z, z = q0.alloc (.cells #[.int .i64 u0, .int .i64 u1] 106) := ⟨_, rfl⟩
              rw [← hv_]
              obtain ⟨lb, hlb⟩ : ∃ z, z = q0.heap.size := ⟨_, rfl⟩
              have b_ : Below q0.heap.size q0 q0_4 := by rw [hv_]; exact below0 _ _
              have LB0 : q0_4.cell? ⟨lb, 0, none⟩ = some (.int .i64 u0) := by rw [hv_, hlb]; simp [go_sem]
              have LB1 : q0_4.cell? ⟨lb, 1, none⟩ = some (.int .i64 u1) := by rw [hv_, hlb]; simp [go_sem]
              replace H9 : Hid (NtS w r gn gu B s n c q0_4 (P0) (.slice (some ⟨g, 0, none⟩) nd kd) (.slice ts0 ns0 ks0) (.slice (some ⟨g, 0, none⟩) nd kd) (nd) (.slice ts0 ns0 ks0) (ns0) p9) := H9.out.below b_
              try rw [← hlb]
              clear hv_ hlb b_
              refine hK.out _ _ (⟨H9.out.2.2.1.1, trivial⟩) (fun hHeld => ?_)
              clear hK KK
              refine wpAnyH_ready (rs := [7]) (by kernel_rfl) (by simp) ?_
              refine (AllReadyH.cons rfl (fun KK hK => ?_) AllReadyH.nil)
              refine wp_Duct H9.out (.tmp 106) (.tmp 111) (by rfl) (by rfl) lb (by rfl) LB0 LB1 (by omega) ?_
              intro g9 cap9 q0_5 l9
              have HA : Hid (NtS w r gn gu B s n c q0_5 (P0) (.slice (some ⟨g, 0, none⟩) nd kd) (.slice ts0 ns0 ks0) (.slice (some ⟨g9, 0, none⟩) (nd + 1) cap9) (nd + 1) (.slice ts0 ns0 ks0) (ns0) p9) := l9
              clear l9 LB0 LB1 H9
              go_simp
              refine hK.out _ _ (⟨HA.out.2.2.1.1, trivial⟩) (fun hHeld => ?_)
              clear hK KK
              refine wpAnyH_take (i := 8) (v := .pointer (some ⟨gn, 1, none⟩)) rfl (by kernel_rfl) (by kernel_rfl) (by kernel_rfl) (fun _ _ _ h => h) (Or.inl ⟨by kernel_rfl, ?_⟩) hHeld ?_
              · intro w' hSw
                obtain ⟨hz0, htr⟩ := hSw
                first | (go_simp; done) | (go_simp; with_reducible rfl) | (go_simp; rw [IntKind.wrap_i64]; omega) | (go_simp; omega)
              simp only [Act.put, List.setIfInBounds_toArray, List.set_cons_zero, List.set_cons_succ]
              refine wpAnyH_ready (rs := [9]) (by kernel_rfl) (by simp) ?_
              refine (AllReadyH.cons rfl (fun KK hK => ?_) AllReadyH.nil)
              have hl_ := HA.out.2.2.1.2.2 1 _ rfl
              have hf_ := HA.out.2.2.1.2.1 1
              have hg_ := HA.out.2.2.1.1
              have hst := store_slT
              go_simp
              obtain ⟨q0_6, hv_⟩ : ∃ z, z = q0_5.setCell ⟨gn, 1, none⟩ (.slice (some ⟨g9, 0, none⟩) (nd + 1) cap9) := ⟨_, rfl⟩
              rw [← hv_]
              have HBx : Hid (NtS w r gn gu B s n c q0_6 (P0) (.slice (some ⟨g9, 0, none⟩) (nd + 1) cap9) (.slice ts0 ns0 ks0) (.slice (some ⟨g9, 0, none⟩) (nd + 1) cap9) (nd + 1) (.slice ts0 ns0 ks0) (ns0) p9) := by show NtS _ _ _ _ _ _ _ _ _ _ _ _ _ _ _ _ _; rw [hv_]; exact HA.out.set1 _
              clear hv_ hl_ hf_ hg_ hst HA
              refine hK.out _ _ (⟨HBx.out.2.2.1.1, trivial⟩) (fun hHeld => ?_)
              clear hK KK
              refine wpAnyH_done (by kernel_rfl) ?_ _
              clear hHeld
              have hL : lenC q0_6 gn 1 = nd + 1 := lenC_is (HBx.out.2.2.1.2.2 1 _ rfl)
              go_wp2
              go_roundw
              case rel => exact ⟨nd + 1, cap9, some ⟨g9, 0, none⟩, by omega, by omega, HBx⟩
              case measure => rw [hL, HLN.out]; omega
            · have hl_ := H9.out.2.2.1.2.2 1 _ rfl
              have hg_ := H9.out.2.2.1.1
              go_simp
              clear hl_ hg_
              refine hK.out _ _ (⟨H9.out.2.2.1.1, trivial⟩) (fun hHeld => ?_)
              clear hK KK
              refine wpAnyH_take (i := 4) (v := .pointer (some ⟨g, 0, none⟩)) rfl (by kernel_rfl) (by kernel_rfl) (by kernel_rfl) (fun _ _ _ h => h) (Or.inl ⟨by kernel_rfl, ?_⟩) hHeld ?_
              · intro w' hSw
                obtain ⟨hz0, htr⟩ := hSw
                first | (go_simp; done) | (go_simp; with_reducible rfl) | (go_simp; rw [IntKind.wrap_i64]; omega) | (go_simp; omega)
              simp only [Act.put, List.setIfInBounds_toArray, List.set_cons_zero, List.set_cons_succ]
              refine wpAnyH_ready (rs := [1, 5]) (by kernel_rfl) (by simp) ?_
              refine (AllReadyH.cons rfl (fun KK hK => ?_) (AllReadyH.cons rfl (fun KK hK => ?_) AllReadyH.nil))
              · have hl_ := H9.out.2.2.1.2.2 1 _ rfl
                have hg_ := H9.out.2.2.1.1
                go_simp
                clear hl_ hg_
                refine hK.out _ _ (⟨H9.out.2.2.1.1, trivial⟩) (fun hHeld => ?_)
                clear hK KK
                refine wpAnyH_ready (rs := [5]) (by kernel_rfl) (by simp) ?_
                refine (AllReadyH.cons rfl (fun KK hK => ?_) AllReadyH.nil)
                obtain ⟨g', u0, u1, eg, t0, t1, tf, tz⟩ := H9.out.first nd1
                cases eg
                go_simp
                clear t0 t1 tf tz
                refine hK.out _ _ (⟨H9.out.2.2.1.1, trivial⟩) (fun hHeld => ?_)
                clear hK KK
                refine wpAnyH_ready (rs := [6]) (by kernel_rfl) (by simp) ?_
                refine (AllReadyH.cons rfl (fun KK hK => ?_) AllReadyH.nil)
                go_simp
                obtain ⟨q0_10, hv_⟩ : ∃ z, z = q0.alloc (.cells #[.int .i64 u0, .int .i64 u1] 106) := ⟨_, rfl⟩
                rw [← hv_]
                obtain ⟨lb, hlb⟩ : ∃ z, z = q0.heap.size := ⟨_, rfl⟩
                have b_ : Below q0.heap.size q0 q0_10 := by rw [hv_]; exact below0 _ _
                have LB0 : q0_10.cell? ⟨lb, 0, none⟩ = some (.int .i64 u0) := by rw [hv_, hlb]; simp [go_sem]
                have LB1 : q0_10.cell? ⟨lb, 1, none⟩ = some (.int .i64 u1) := by rw [hv_, hlb]; simp [go_sem]
                replace H9 : Hid (NtS w r gn gu B s n c q0_10 (P0) (.slice (some ⟨g, 0, none⟩) nd kd) (.slice ts0 ns0 ks0) (.slice (some ⟨g, 0, none⟩) nd kd) (nd) (.slice ts0 ns0 ks0) (ns0) p9) := H9.out.below b_
                try rw [← hlb]
                clear hv_ hlb b_
                refine hK.out _ _ (⟨H9.out.2.2.1.1, trivial⟩) (fun hHeld => ?_)
                clear hK KK
                refine wpAnyH_ready (rs := [7]) (by kernel_rfl) (by simp) ?_
                refine (AllReadyH.cons rfl (fun KK hK => ?_) AllReadyH.nil)
                refine wp_Duct H9.out (.tmp 106) (.tmp 111) (by rfl) (by rfl) lb (by rfl) LB0 LB1 (by omega) ?_
                intro g9 cap9 q0_11 l9
                have HA : Hid (NtS w r gn gu B s n c q0_11 (P0) (.slice (some ⟨g, 0, none⟩) nd kd) (.slice ts0 ns0 ks0) (.slice (some ⟨g9, 0, none⟩) (nd + 1) cap9) (nd + 1) (.slice ts0 ns0 ks0) (ns0) p9) := l9
                clear l9 LB0 LB1 H9
                go_simp
                refine hK.out _ _ (⟨HA.out.2.2.1.1, trivial⟩) (fun hHeld => ?_)
                clear hK KK
                refine wpAnyH_take (i := 8) (v := .pointer (some ⟨gn, 1, none⟩)) rfl (by kernel_rfl) (by kernel_rfl) (by kernel_rfl) (fun _ _ _ h => h) (Or.inl ⟨by kernel_rfl, ?_⟩) hHeld ?_
                · intro w' hSw
                  obtain ⟨hz0, htr⟩ := hSw
                  first | (go_simp; done) | (go_simp; with_reducible rfl) | (go_simp; rw [IntKind.wrap_i64]; omega) | (go_simp; omega)
                simp only [Act.put, List.setIfInBounds_toArray, List.set_cons_zero, List.set_cons_succ]
                refine wpAnyH_ready (rs := [9]) (by kernel_rfl) (by simp) ?_
                refine (AllReadyH.cons rfl (fun KK hK => ?_) AllReadyH.nil)
                have hl_ := HA.out.2.2.1.2.2 1 _ rfl
                have hf_ := HA.out.2.2.1.2.1 1
                have hg_ := HA.out.2.2.1.1
                have hst := store_slT
                go_simp
                obtain ⟨q0_12, hv_⟩ : ∃ z, z = q0_11.setCell ⟨gn, 1, none⟩ (.slice (some ⟨g9, 0, none⟩) (nd + 1) cap9) := ⟨_, rfl⟩
                rw [← hv_]
                have HBx : Hid (NtS w r gn gu B s n c q0_12 (P0) (.slice (some ⟨g9, 0, none⟩) (nd + 1) cap9) (.slice ts0 ns0 ks0) (.slice (some ⟨g9, 0, none⟩) (nd + 1) cap9) (nd + 1) (.slice ts0 ns0 ks0) (ns0) p9) := by show NtS _ _ _ _ _ _ _ _ _ _ _ _ _ _ _ _ _; rw [hv_]; exact HA.out.set1 _
                clear hv_ hl_ hf_ hg_ hst HA
                refine hK.out _ _ (⟨HBx.out.2.2.1.1, trivial⟩) (fun hHeld => ?_)
                clear hK KK
                refine wpAnyH_done (by kernel_rfl) ?_ _
                clear hHeld
                have hL : lenC q0_12 gn 1 = nd + 1 := lenC_is (HBx.out.2.2.1.2.2 1 _ rfl)
                go_wp2
                go_roundw
                case rel => exact ⟨nd + 1, cap9, some ⟨g9, 0, none⟩, by omega, by omega, HBx⟩
                case measure => rw [hL, HLN.out]; omega
              · obtain ⟨g', u0, u1, eg, t0, t1, tf, tz⟩ := H9.out.first nd1
                cases eg
                go_simp
                clear t0 t1 tf tz
                refine hK.out _ _ (⟨H9.out.2.2.1.1, trivial⟩) (fun hHeld => ?_)
                clear hK KK
                refine wpAnyH_ready (rs := [1, 6]) (by kernel_rfl) (by simp) ?_
                refine (AllReadyH.cons rfl (fun KK hK => ?_) (AllReadyH.cons rfl (fun KK hK => ?_) AllReadyH.nil))
                · have hl_ := H9.out.2.2.1.2.2 1 _ rfl
                  have hg_ := H9.out.2.2.1.1
                  go_simp
                  clear hl_ hg_
                  refine hK.out _ _ (⟨H9.out.2.2.1.1, trivial⟩) (fun hHeld => ?_)
                  clear hK KK
                  refine wpAnyH_ready (rs := [6]) (by kernel_rfl) (by simp) ?_
                  refine (AllReadyH.cons rfl (fun KK hK => ?_) AllReadyH.nil)
                  go_simp
                  obtain ⟨q0_15, hv_⟩ : ∃ z, z = q0.alloc (.cells #[.int .i64 u0, .int .i64 u1] 106) := ⟨_, rfl⟩
                  rw [← hv_]
                  obtain ⟨lb, hlb⟩ : ∃ z, z = q0.heap.size := ⟨_, rfl⟩
                  have b_ : Below q0.heap.size q0 q0_15 := by rw [hv_]; exact below0 _ _
                  have LB0 : q0_15.cell? ⟨lb, 0, none⟩ = some (.int .i64 u0) := by rw [hv_, hlb]; simp [go_sem]
                  have LB1 : q0_15.cell? ⟨lb, 1, none⟩ = some (.int .i64 u1) := by rw [hv_, hlb]; simp [go_sem]
                  replace H9 : Hid (NtS w r gn gu B s n c q0_15 (P0) (.slice (some ⟨g, 0, none⟩) nd kd) (.slice ts0 ns0 ks0) (.slice (some ⟨g, 0, none⟩) nd kd) (nd) (.slice ts0 ns0 ks0) (ns0) p9) := H9.out.below b_
                  try rw [← hlb]
                  clear hv_ hlb b_
                  refine hK.out _ _ (⟨H9.out.2.2.1.1, trivial⟩) (fun hHeld => ?_)
                  clear hK KK
                  refine wpAnyH_ready (rs := [7]) (by kernel_rfl) (by simp) ?_
                  refine (AllReadyH.cons rfl (fun KK hK => ?_) AllReadyH.nil)
                  refine wp_Duct H9.out (.tmp 106) (.tmp 111) (by rfl) (by rfl) lb (by rfl) LB0 LB1 (by omega) ?_
                  intro g9 cap9 q0_16 l9
                  have HA : Hid (NtS w r gn gu B s n c q0_16 (P0) (.slice (some ⟨g, 0, none⟩) nd kd) (.slice ts0 ns0 ks0) (.slice (some ⟨g9, 0, none⟩) (nd + 1) cap9) (nd + 1) (.slice ts0 ns0 ks0) (ns0) p9) := l9
                  clear l9 LB0 LB1 H9
                  go_simp
                  refine hK.out _ _ (⟨HA.out.2.2.1.1, trivial⟩) (fun hHeld => ?_)
                  clear hK KK
                  refine wpAnyH_take (i := 8) (v := .pointer (some ⟨gn, 1, none⟩)) rfl (by kernel_rfl) (by kernel_rfl) (by kernel_rfl) (fun _ _ _ h => h) (Or.inl ⟨by kernel_rfl, ?_⟩) hHeld ?_
                  · intro w' hSw
                    obtain ⟨hz0, htr⟩ := hSw
                    first | (go_simp; done) | (go_simp; with_reducible rfl) | (go_simp; rw [IntKind.wrap_i64]; omega) | (go_simp; omega)
                  simp only [Act.put, List.setIfInBounds_toArray, List.set_cons_zero, List.set_cons_succ]
                  refine wpAnyH_ready (rs := [9]) (by kernel_rfl) (by simp) ?_
                  refine (AllReadyH.cons rfl (fun KK hK => ?_) AllReadyH.nil)
                  have hl_ := HA.out.2.2.1.2.2 1 _ rfl
                  have hf_ := HA.out.2.2.1.2.1 1
                  have hg_ := HA.out.2.2.1.1
                  have hst := store_slT
                  go_simp
                  obtain ⟨q0_17, hv_⟩ : ∃ z, z = q0_16.setCell ⟨gn, 1, none⟩ (.slice (some ⟨g9, 0, none⟩) (nd + 1) cap9) := ⟨_, rfl⟩
                  rw [← hv_]
                  have HBx : Hid (NtS w r gn gu B s n c q0_17 (P0) (.slice (some ⟨g9, 0, none⟩) (nd + 1) cap9) (.slice ts0 ns0 ks0) (.slice (some ⟨g9, 0, none⟩) (nd + 1) cap9) (nd + 1) (.slice ts0 ns0 ks0) (ns0) p9) := by show NtS _ _ _ _ _ _ _ _ _ _ _ _ _ _ _ _ _; rw [hv_]; exact HA.out.set1 _
                  clear hv_ hl_ hf_ hg_ hst HA
                  refine hK.out _ _ (⟨HBx.out.2.2.1.1, trivial⟩) (fun hHeld => ?_)
                  clear hK KK
                  refine wpAnyH_done (by kernel_rfl) ?_ _
                  clear hHeld
                  have hL : lenC q0_17 gn 1 = nd + 1 := lenC_is (HBx.out.2.2.1.2.2 1 _ rfl)
                  go_wp2
                  go_roundw
                  case rel => exact ⟨nd + 1, cap9, some ⟨g9, 0, none⟩, by omega, by omega, HBx⟩
                  case measure => rw [hL, HLN.out]; omega
                · go_simp
                  obtain ⟨q0_18, hv_⟩ : ∃ z, z = q0.alloc (.cells #[.int .i64 u0, .int .i64 u1] 106) := ⟨_, rfl⟩
                  rw [← hv_]
                  obtain ⟨lb, hlb⟩ : ∃ z, z = q0.heap.size := ⟨_, rfl⟩
                  have b_ : Below q0.heap.size q0 q0_18 := by rw [hv_]; exact below0 _ _
                  have LB0 : q0_18.cell? ⟨lb, 0, none⟩ = some (.int .i64 u0) := by rw [hv_, hlb]; simp [go_sem]
                  have LB1 : q0_18.cell? ⟨lb, 1, none⟩ = some (.int .i64 u1) := by rw [hv_, hlb]; simp [go_sem]
                  replace H9 : Hid (NtS w r gn gu B s n c q0_18 (P0) (.slice (some ⟨g, 0, none⟩) nd kd) (.slice ts0 ns0 ks0) (.slice (some ⟨g, 0, none⟩) nd kd) (nd) (.slice ts0 ns0 ks0) (ns0) p9) := H9.out.below b_
                  try rw [← hlb]
                  clear hv_ hlb b_
                  refine hK.out _ _ (⟨H9.out.2.2.1.1, trivial⟩) (fun hHeld => ?_)
                  clear hK KK
                  refine wpAnyH_ready (rs := [1]) (by kernel_rfl) (by simp) ?_
                  refine (AllReadyH.cons rfl (fun KK hK => ?_) AllReadyH.nil)
                  have hl_ := H9.out.2.2.1.2.2 1 _ rfl
                  have hg_ := H9.out.2.2.1.1
                  go_simp
                  clear hl_ hg_
                  refine hK.out _ _ (⟨H9.out.2.2.1.1, trivial⟩) (fun hHeld => ?_)
                  clear hK KK
                  refine wpAnyH_ready (rs := [7]) (by kernel_rfl) (by simp) ?_
                  refine (AllReadyH.cons rfl (fun KK hK => ?_) AllReadyH.nil)
                  refine wp_Duct H9.out (.tmp 106) (.tmp 111) (by rfl) (by rfl) lb (by rfl) LB0 LB1 (by omega) ?_
                  intro g9 cap9 q0_20 l9
                  have HA : Hid (NtS w r gn gu B s n c q0_20 (P0) (.slice (some ⟨g, 0, none⟩) nd kd) (.slice ts0 ns0 ks0) (.slice (some ⟨g9, 0, none⟩) (nd + 1) cap9) (nd + 1) (.slice ts0 ns0 ks0) (ns0) p9) := l9
                  clear l9 LB0 LB1 H9
                  go_simp
                  refine hK.out _ _ (⟨HA.out.2.2.1.1, trivial⟩) (fun hHeld => ?_)
                  clear hK KK
                  refine wpAnyH_take (i := 8) (v := .pointer (some ⟨gn, 1, none⟩)) rfl (by kernel_rfl) (by kernel_rfl) (by kernel_rfl) (fun _ _ _ h => h) (Or.inl ⟨by kernel_rfl, ?_⟩) hHeld ?_
                  · intro w' hSw
                    obtain ⟨hz0, htr⟩ := hSw
                    first | (go_simp; done) | (go_simp; with_reducible rfl) | (go_simp; rw [IntKind.wrap_i64]; omega) | (go_simp; omega)
                  simp only [Act.put, List.setIfInBounds_toArray, List.set_cons_zero, List.set_cons_succ]
                  refine wpAnyH_ready (rs := [9]) (by kernel_rfl) (by simp) ?_
                  refine (AllReadyH.cons rfl (fun KK hK => ?_) AllReadyH.nil)
                  have hl_ := HA.out.2.2.1.2.2 1 _ rfl
                  have hf_ := HA.out.2.2.1.2.1 1
                  have hg_ := HA.out.2.2.1.1
                  have hst := store_slT
                  go_simp
                  obtain ⟨q0_21, hv_⟩ : ∃ z, z = q0_20.setCell ⟨gn, 1, none⟩ (.slice (some ⟨g9, 0, none⟩) (nd + 1) cap9) := ⟨_, rfl⟩
                  rw [← hv_]
                  have HBx : Hid (NtS w r gn gu B s n c q0_21 (P0) (.slice (some ⟨g9, 0, none⟩) (nd + 1) cap9) (.slice ts0 ns0 ks0) (.slice (some ⟨g9, 0, none⟩) (nd + 1) cap9) (nd + 1) (.slice ts0 ns0 ks0) (ns0) p9) := by show NtS _ _ _ _ _ _ _ _ _ _ _ _ _ _ _ _ _; rw [hv_]; exact HA.out.set1 _
                  clear hv_ hl_ hf_ hg_ hst HA
                  refine hK.out _ _ (⟨HBx.out.2.2.1.1, trivial⟩) (fun hHeld => ?_)
                  clear hK KK
                  refine wpAnyH_done (by kernel_rfl) ?_ _
                  clear hHeld
                  have hL : lenC q0_21 gn 1 = nd + 1 := lenC_is (HBx.out.2.2.1.2.2 1 _ rfl)
                  go_wp2
                  go_roundw
                  case rel => exact ⟨nd + 1, cap9, some ⟨g9, 0, none⟩, by omega, by omega, HBx⟩
                  case measure => rw [hL, HLN.out]; omega
          case neg =>
            have li : ¬ (nd : Int) < (mN : Int) := by omega
            have c1 := HN.out.2.2.1.2.2 1 _ rfl
            have cz := HN.out.2.2.1.1
            go_upto_region 24 with fail
            clear c1 cz
            have c0 := HN.out.2.2.1.2.2 0 _ rfl
            have c1 := HN.out.2.2.1.2.2 1 _ rfl
            have c2 := HN.out.2.2.1.2.2 2 _ rfl
            have cf0 := HN.out.2.2.1.2.1 0
            have cf1 := HN.out.2.2.1.2.1 1
            have cf2 := HN.out.2.2.1.2.1 2
            have cz := HN.out.2.2.1.1
            have hst := store_slT
            have u0 := HN.out.2.2.2.1.2.2 0 _ rfl
            have u1 := HN.out.2.2.2.1.2.2 1 _ rfl
            have u2 := HN.out.2.2.2.1.2.2 2 _ rfl
            have uf0 := HN.out.2.2.2.1.2.1 0
            have uf1 := HN.out.2.2.2.1.2.1 1
            have uf2 := HN.out.2.2.2.1.2.1 2
            have uz := HN.out.2.2.2.1.1
            have HF := HN.out.out (show (nd : Nat) ≤ 70000 by omega) (show (ns0 : Nat) ≤ 10 by omega) (.int .i64 (P0)) (.slice td (nd) kd) (.slice ts0 (ns0) ks0)
            have HFH := Hid.of HF
            clear HF
            go_wp2
            refine bodyPost_ret (v := .agg #[.int .i64 (P0), .slice td (nd) kd, .slice ts0 (ns0) ks0]) (by simp [results, Try.results72, go_sem, u0, u1, u2]) rfl ?_
            exact ⟨_, _, _, _, _, _, _, rfl, HFH.out⟩
      have b4 : (k == 4) = false := beq_false_of_ne e4
      clear e0 e1 e2 e3 e4
      go_upto_region 24 with fail
      have c0 := H8.out.2.2.1.2.2 0 _ rfl
      have c1 := H8.out.2.2.1.2.2 1 _ rfl
      have c2 := H8.out.2.2.1.2.2 2 _ rfl
      have cf0 := H8.out.2.2.1.2.1 0
      have cf1 := H8.out.2.2.1.2.1 1
      have cf2 := H8.out.2.2.1.2.1 2
      have cz := H8.out.2.2.1.1
      have hst := store_slT
      have u0 := H8.out.2.2.2.1.2.2 0 _ rfl
      have u1 := H8.out.2.2.2.1.2.2 1 _ rfl
      have u2 := H8.out.2.2.2.1.2.2 2 _ rfl
      have uf0 := H8.out.2.2.2.1.2.1 0
      have uf1 := H8.out.2.2.2.1.2.1 1
      have uf2 := H8.out.2.2.2.1.2.1 2
      have uz := H8.out.2.2.2.1.1
      have HF := H8.out.out (show (nd0 : Nat) ≤ 70000 by omega) (show (ns0 : Nat) ≤ 10 by omega) (.int .i64 (P0)) (.slice td0 (nd0) kd0) (.slice ts0 (ns0) ks0)
      have HFH := Hid.of HF
      clear HF
      go_wp2
      refine bodyPost_ret (v := .agg #[.int .i64 (P0), .slice td0 (nd0) kd0, .slice ts0 (ns0) ks0]) (by simp [results, Try.results72, go_sem, u0, u1, u2]) rfl ?_
      exact ⟨_, _, _, _, _, _, _, rfl, HFH.out⟩
end Go.Proofs.Ytikcfpjfcpbfcaa
