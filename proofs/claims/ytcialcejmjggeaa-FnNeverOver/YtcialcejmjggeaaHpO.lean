/-
What is proved: a queue of machines is made; its first is taken off.
-/
import Derived.Test.YtcialcejmjggeaaHpH
import Derived.Test.YtcialcejmjggeaaPwI
import Derived.Deep.RegionHeldLaw
import Derived.Deep.DeepCutAuto

namespace Go.Proofs.Ytcialcejmjggeaa
set_option maxRecDepth 40000
open Go.ChangeShapes Go.WideShapes Go.ChangeAt Go.RowKit
set_option linter.unusedVariables false
set_option linter.unusedSimpArgs false

theorem Turn.new {X : Nat → Prop} {w w' : World} (h : Turn (fun k => X k ∨ w.heap.size ≤ k) w w') : Turn X w w' := ⟨h.1, h.2.1, h.2.2.1, h.2.2.2.1, fun k hk hn => h.2.2.2.2 k hk (fun q => q.elim hn (fun e => by omega))⟩
theorem assert_pl2 (V : Nat → Int) (a : Nat) (w : World) : Sem.run Try.prog (Instr.typeAssert (.iface 55 (plV V a)) 20 55 false) w = .ok (plV V a) w := by kernel_rfl
set_option maxRecDepth 20000 in
set_option maxHeartbeats 4000000 in
theorem first_any (sh : Bool) (X : Nat → Prop) (q m : Nat) (V : Nat → Int) (P : Nat → Nat) (S : Nat → Prop) (w : World) (hn : m + 1 < 1000) (HH : Hid (Hold (m + 1) P S)) (HS : Hid (∀ a, S a → a < 60)) (HG : Hid (HeapG (kO sh V) 0 (m + 1) P)) (HQ : Hid (QAt X q w sh (m + 1) V P)) :
    Calls Try.prog 32 #[.pointer (some ⟨q, 0, none⟩)] w fun e w' => ∃ P', e = .returned (plV V (P 0)) ∧ QAt X q w' sh m V P' ∧ Turn X w w' ∧ HeapG (kO sh V) 0 m P' ∧ Hold m P' (fun a => S a ∧ a ≠ P 0) := by
  have zq := HQ.out.lt
  go_enter Try.func32, Try.ntmps32
  go_wp2_with fail
  obtain ⟨wa, hwa⟩ : ∃ z, z = w.alloc (.cells #[.int .i64 0, .int .i64 0, .int .i64 0, .int .i64 0, .int .i64 0] 55) := ⟨_, rfl⟩
  rw [← hwa]
  have c0 : wa.cell? ⟨w.heap.size, 0, none⟩ = some (.int .i64 0) := by rw [hwa]; simp [go_sem]
  have c1 : wa.cell? ⟨w.heap.size, 1, none⟩ = some (.int .i64 0) := by rw [hwa]; simp [go_sem]
  have c2 : wa.cell? ⟨w.heap.size, 2, none⟩ = some (.int .i64 0) := by rw [hwa]; simp [go_sem]
  have c3 : wa.cell? ⟨w.heap.size, 3, none⟩ = some (.int .i64 0) := by rw [hwa]; simp [go_sem]
  have c4 : wa.cell? ⟨w.heap.size, 4, none⟩ = some (.int .i64 0) := by rw [hwa]; simp [go_sem]
  have fz : ∀ o, wa.frozen? ⟨w.heap.size, o, none⟩ = false := fun o => by rw [hwa]; simp [go_sem]
  have za : w.heap.size < wa.heap.size := by rw [hwa]; simp
  have Ba : Below w.heap.size w wa := by rw [hwa]; exact (by repeat (first | with_reducible exact Below.refl _ _ | with_reducible refine Below.setCell ?_ (by first | omega | (simp; done) | (simp; omega)) _ | with_reducible refine bDrewN ?_ _ | with_reducible refine Below.drew ?_ | with_reducible refine Below.alloc ?_ (by first | omega | (simp; done) | (simp; omega)) _))
  clear hwa
  have HQa : Hid (QAt (fun b => X b ∧ b < w.heap.size) q wa sh (m + 1) V P) := ((HQ.out.mono (Y := fun b => X b ∧ b < w.heap.size) fun b hb hx => ⟨hx, hb⟩).below Ba)
  go_wp2_with fail
  refine (hpop_any sh (fun b => X b ∧ b < w.heap.size) q m V P S _ hn HH HS HG HQa).mono ?_
  rintro e w1 ⟨P', rfl, hQ, hT, hG, hHo⟩
  have d0 := (hT.cell (p := ⟨w.heap.size, 0, none⟩) za (fun h => Nat.lt_irrefl _ h.2)).trans c0
  have d1 := (hT.cell (p := ⟨w.heap.size, 1, none⟩) za (fun h => Nat.lt_irrefl _ h.2)).trans c1
  have d2 := (hT.cell (p := ⟨w.heap.size, 2, none⟩) za (fun h => Nat.lt_irrefl _ h.2)).trans c2
  have d3 := (hT.cell (p := ⟨w.heap.size, 3, none⟩) za (fun h => Nat.lt_irrefl _ h.2)).trans c3
  have d4 := (hT.cell (p := ⟨w.heap.size, 4, none⟩) za (fun h => Nat.lt_irrefl _ h.2)).trans c4
  have gz : ∀ o, w1.frozen? ⟨w.heap.size, o, none⟩ = false := fun o => (hT.frozen (p := ⟨w.heap.size, o, none⟩) za (fun h => Nat.lt_irrefl _ h.2)).trans (fz o)
  have z1 : w.heap.size < w1.heap.size := Nat.lt_of_lt_of_le za hT.size
  have HQ1 : Hid (QAt (fun b => X b ∧ b < w.heap.size) q w1 sh m V P') := hQ
  have HT1 : Hid (Turn (fun b => X b ∧ b < w.heap.size) wa w1) := hT
  have HG1 : Hid (HeapG (kO sh V) 0 m P') := hG
  have HH1 : Hid (Hold m P' (fun a => S a ∧ a ≠ P 0)) := hHo
  have BA : Hid (Below w.heap.size w wa) := Ba
  clear hQ hT hG hHo Ba c0 c1 c2 c3 c4 fz HQa
  obtain ⟨a, hA⟩ : ∃ z, P 0 = z := ⟨_, rfl⟩
  have HAE : Hid (P 0 = a) := hA
  rw [hA]
  clear hA
  have hpl := assert_pl2 V a w1
  unfold plV at hpl ⊢
  go_wp2
  have T5 : ∀ (x0 x1 x2 x3 x4 : Value), Turn (fun k => k = w.heap.size) w1 (((((w1.setCell ⟨w.heap.size, 0, none⟩ x0).setCell ⟨w.heap.size, 1, none⟩ x1).setCell ⟨w.heap.size, 2, none⟩ x2).setCell ⟨w.heap.size, 3, none⟩ x3).setCell ⟨w.heap.size, 4, none⟩ x4) := fun x0 x1 x2 x3 x4 => ((((Turn.of (S := fun k => k = w.heap.size) (Beside.setCell _ _ _ _) rfl).trans (Turn.of (S := fun k => k = w.heap.size) (Beside.setCell _ _ _ _) rfl)).trans (Turn.of (S := fun k => k = w.heap.size) (Beside.setCell _ _ _ _) rfl)).trans (Turn.of (S := fun k => k = w.heap.size) (Beside.setCell _ _ _ _) rfl)).trans (Turn.of (S := fun k => k = w.heap.size) (Beside.setCell _ _ _ _) rfl)
  refine bodyPost_ret (v := .agg #[.int .i64 (V (a * 4)), .int .i64 (V (a * 4 + 1)), .int .i64 (V (a * 4 + 2)), .int .i64 (V (a * 4 + 3)), .int .i64 (a : Int)]) (by simp [results, Try.results32, go_sem, d0, d1, d2, d3, d4]) rfl ⟨P', by rw [HAE.out]; rfl, ?_, ?_, HG1.out, ?_⟩
  · exact (HQ1.out.turn (T5 _ _ _ _ _) (fun b _ hx e => by rw [e] at hx; exact Nat.lt_irrefl _ hx.2)).mono (fun b _ hx => hx.1)
  · have t1 : Turn X w wa := Turn.grown BA.out
    have t2 : Turn X wa w1 := HT1.out.mono (fun b h => h.1)
    exact Turn.new (((t1.trans t2).mono (fun b h => .inl h)).trans ((T5 _ _ _ _ _).mono (fun b e => .inr (Nat.le_of_eq e.symm))))
  · exact HH1.out
theorem cell_elseQ {W : World} {a b o : Nat} {v : Value} {r : Nat} (h : a ≠ b) : (W.setCell ⟨a, o, none⟩ v).cell? ⟨b, r, none⟩ = W.cell? ⟨b, r, none⟩ := World.cell?_of_block (w := W) (heap_setCell_other W ⟨a, o, none⟩ b v (Ne.symm h))
set_option maxRecDepth 20000 in
set_option maxHeartbeats 4000000 in
theorem queueOfShed_any (s : Option Addr) (n c : Nat) (V : Nat → Int) (w : World) (hn : n ≤ 60) (HR : Hid (RowI w s (n * 4) V)) :
    Calls Try.prog 31 #[.slice s n c, byV true] w fun e w' => ∃ q P, e = .returned (.pointer (some ⟨q, 0, none⟩)) ∧ w.heap.size ≤ q ∧ QAt (fun b => w.heap.size ≤ b) q w' true n V P ∧ Below w.heap.size w w' ∧ HeapG (kO true V) 0 n P ∧ Hold n P (fun a => a < n) := by
  have hby : byV true = .iface 53 (.agg #[]) := rfl
  have HBY : Hid (byV true = .iface 53 (.agg #[])) := hby
  rw [hby]
  clear hby
  have hN : (n : Int) ≤ 60 := by omega
  go_enter Try.func31, Try.ntmps31
  go_wp2_with fail
  obtain ⟨q, hq⟩ : ∃ z, w.heap.size = z := ⟨_, rfl⟩
  obtain ⟨wa, hwa⟩ : ∃ z, z = w.alloc (.cells #[.iface 53 (.agg #[]), .slice none 0 0] 75) := ⟨_, rfl⟩
  rw [← hwa, hq]
  have HQa : Hid (QAt (fun b => w.heap.size ≤ b) q wa true 0 V (fun i => i)) := ⟨by rw [← hq]; exact Nat.le_refl _, none, 0, by rw [hwa, ← hq, HBY.out]; exact heap_alloc_new w _, ⟨by simp [vals], .inl ⟨rfl, rfl⟩⟩, fun g e => by cases e⟩
  have HBa : Hid (Below w.heap.size w wa) := by show Below _ _ _; rw [hwa]; exact (by repeat (first | with_reducible exact Below.refl _ _ | with_reducible refine Below.setCell ?_ (by first | omega | (simp; done) | (simp; omega)) _ | with_reducible refine bDrewN ?_ _ | with_reducible refine Below.drew ?_ | with_reducible refine Below.alloc ?_ (by first | omega | (simp; done) | (simp; omega)) _))
  have HQ0 : Hid (w.heap.size = q) := hq
  clear hwa hq
  go_loopw [13] (fun i wr => ∃ k : Nat, k ≤ n ∧ i = .int .i64 k ∧ Hid (QAt (fun b => w.heap.size ≤ b) q wr true k V (fun i => i)) ∧ Hid (Below w.heap.size w wr)) (fun i _ => n - (intOf i).toNat)
  case atStart => exact ⟨0, Nat.zero_le _, rfl, HQa, HBa⟩
  case round =>
    clear HQa HBa
    obtain ⟨k, hk, rfl, HQ, HB⟩ := hrel
    have hB := HB.out
    by_cases h1 : k < n
    case neg =>
      obtain rfl : k = n := by omega
      have HH : Hid (Hold k (fun i => i) (fun a => a < k)) := ⟨fun i hi => hi, fun a ha => ⟨a, ha, rfl⟩, fun i j _ _ e => e⟩
      have HS : Hid (∀ a, a < k → a < 60) := fun a ha => by omega
      have hq1 : w.heap.size ≤ q := HQ.out.1
      go_wp2_with fail
      refine (init_any true (fun b => w.heap.size ≤ b) q k V (fun i => i) (fun a => a < k) _ (by omega) HH HS HQ).mono ?_
      rintro e w2 ⟨rfl, P2, hQ2, hT2, hH2, hR2⟩
      have HQ2 : Hid (QAt (fun b => w.heap.size ≤ b) q w2 true k V P2) := hQ2
      have HB2 : Hid (Below w.heap.size w w2) := HB.out.trans (hT2.below (fun _ h => h) HB.out.size)
      have HG2 : Hid (HeapG (kO true V) 0 k P2) := hH2
      have HH2 : Hid (Hold k P2 (fun a => a < k)) := hR2.1 _ k (Nat.le_refl _) HH.out
      clear hQ2 hT2 hH2 hR2
      go_wp2
      go_ret
      exact ⟨q, P2, rfl, hq1, HQ2.out, HB2.out, HG2.out, HH2.out⟩
    have k1 : (k : Int) < (n : Int) := by omega
    obtain ⟨g, o, rfl, hg, c0⟩ := HR.out (k * 4) (by omega)
    obtain ⟨g', o', e', hg1, c1⟩ := HR.out (k * 4 + 1) (by omega)
    cases e'
    obtain ⟨g', o', e', hg2, c2⟩ := HR.out (k * 4 + 2) (by omega)
    cases e'
    obtain ⟨g', o', e', hg3, c3⟩ := HR.out (k * 4 + 3) (by omega)
    cases e'
    have d0 : wr.cell? ⟨g, o + k * 4, none⟩ = some (.int .i64 (V (k * 4))) := (hB.cell (p := ⟨g, o + k * 4, none⟩) hg).trans c0
    have d1 : wr.cell? ⟨g, o + k * 4 + 1, none⟩ = some (.int .i64 (V (k * 4 + 1))) := (hB.cell (p := ⟨g, o + (k * 4 + 1), none⟩) hg).trans c1
    have d2 : wr.cell? ⟨g, o + k * 4 + 2, none⟩ = some (.int .i64 (V (k * 4 + 2))) := (hB.cell (p := ⟨g, o + (k * 4 + 2), none⟩) hg).trans c2
    have d3 : wr.cell? ⟨g, o + k * 4 + 3, none⟩ = some (.int .i64 (V (k * 4 + 3))) := (hB.cell (p := ⟨g, o + (k * 4 + 3), none⟩) hg).trans c3
    clear hB c0 c1 c2 c3 hg hg1 hg2 hg3
    go_upto_region 5 with fail
    have hq1 : w.heap.size ≤ q := HQ.out.1
    have HQm : Hid (QAt (fun b => w.heap.size ≤ b ∧ b ≠ wr.heap.size) q wr true k V (fun i => i)) := HQ.out.mono (fun b hb hx => ⟨hx, Nat.ne_of_lt hb⟩)
    have sB := HB.out.size
    clear HQ d0 d1 d2 d3
    obtain ⟨wm, hwm⟩ : ∃ z, z = wr.alloc (.cells #[.int .i64 (V (k * 4)), .int .i64 (V (k * 4 + 1)), .int .i64 (V (k * 4 + 2)), .int .i64 (V (k * 4 + 3))] 41) := ⟨_, rfl⟩
    rw [← hwm]
    obtain ⟨mv, hmv⟩ : ∃ z, wr.heap.size = z := ⟨_, rfl⟩
    rw [hmv] at HQm sB ⊢
    have bm : Below wr.heap.size wr wm := by rw [hwm]; exact (by repeat (first | with_reducible exact Below.refl _ _ | with_reducible refine Below.setCell ?_ (by first | omega | (simp; done) | (simp; omega)) _ | with_reducible refine bDrewN ?_ _ | with_reducible refine Below.drew ?_ | with_reducible refine Below.alloc ?_ (by first | omega | (simp; done) | (simp; omega)) _))
    have zm : mv < wm.heap.size := by rw [hwm, ← hmv]; simp
    have m0 : wm.cell? ⟨mv, 0, none⟩ = some (.int .i64 (V (k * 4))) := by rw [hwm, ← hmv]; simp [go_sem]
    have m1 : wm.cell? ⟨mv, 1, none⟩ = some (.int .i64 (V (k * 4 + 1))) := by rw [hwm, ← hmv]; simp [go_sem]
    have m2 : wm.cell? ⟨mv, 2, none⟩ = some (.int .i64 (V (k * 4 + 2))) := by rw [hwm, ← hmv]; simp [go_sem]
    have m3 : wm.cell? ⟨mv, 3, none⟩ = some (.int .i64 (V (k * 4 + 3))) := by rw [hwm, ← hmv]; simp [go_sem]
    have HQw : Hid (QAt (fun b => w.heap.size ≤ b ∧ b ≠ mv) q wm true k V (fun i => i)) := HQm.out.below bm
    have HBw : Hid (Below w.heap.size w wm) := HB.out.trans (bm.mono HB.out.size)
    clear hwm bm HQm HB hmv
    obtain ⟨sl, cap, c1⟩ := HQw.out.len
    have zq := HQw.out.lt
    refine wp_region_held_drew (S := fun w' => w'.cell? ⟨mv, 0, none⟩ = some (.int .i64 (V (k * 4))) ∧ w'.cell? ⟨mv, 1, none⟩ = some (.int .i64 (V (k * 4 + 1))) ∧ w'.cell? ⟨mv, 2, none⟩ = some (.int .i64 (V (k * 4 + 2))) ∧ w'.cell? ⟨mv, 3, none⟩ = some (.int .i64 (V (k * 4 + 3)))) (by kernel_rfl) ?_ (fun hHeld => ?_)
    · exact ⟨by simpa [go_sem] using m0, by simpa [go_sem] using m1, by simpa [go_sem] using m2, by simpa [go_sem] using m3⟩
    obtain ⟨v0, hv0⟩ : ∃ z, z = wm.drew := ⟨_, rfl⟩
    try rw [← hv0] at hHeld
    rw [← hv0]
    have bv0 : Below wm.heap.size wm v0 := by rw [hv0]; exact Below.drew (Below.refl _ _)
    clear hv0
    have HV : Hid (QAt (fun b => w.heap.size ≤ b ∧ b ≠ mv) q v0 true k V (fun i => i)) := HQw.out.below bv0
    have BV : Hid (Below w.heap.size w v0) := HBw.out.trans (bv0.mono HBw.out.size)
    have HXv : Hid (∀ b, v0.heap.size ≤ b → w.heap.size ≤ b ∧ b ≠ mv) := fun b hb => ⟨Nat.le_trans BV.out.size hb, fun e => by have := bv0.size; omega⟩
    have c1v : v0.cell? ⟨q, 1, none⟩ = some (.slice sl k cap) := (bv0.cell (p := ⟨q, 1, none⟩) zq).trans c1
    have n0 : v0.cell? ⟨mv, 0, none⟩ = some (.int .i64 (V (k * 4))) := (bv0.cell (p := ⟨mv, 0, none⟩) zm).trans m0
    have n1 : v0.cell? ⟨mv, 1, none⟩ = some (.int .i64 (V (k * 4 + 1))) := (bv0.cell (p := ⟨mv, 1, none⟩) zm).trans m1
    have n2 : v0.cell? ⟨mv, 2, none⟩ = some (.int .i64 (V (k * 4 + 2))) := (bv0.cell (p := ⟨mv, 2, none⟩) zm).trans m2
    have n3 : v0.cell? ⟨mv, 3, none⟩ = some (.int .i64 (V (k * 4 + 3))) := (bv0.cell (p := ⟨mv, 3, none⟩) zm).trans m3
    have zqv : q < v0.heap.size := Nat.lt_of_lt_of_le zq bv0.size
    have zmv : mv < v0.heap.size := Nat.lt_of_lt_of_le zm bv0.size
    clear bv0 HQw HBw c1 zq m0 m1 m2 m3 zm
    refine wpAnyH_take (i := 0) (v := .pointer (some ⟨q, 0, none⟩)) rfl (by kernel_rfl) (by kernel_rfl) (by kernel_rfl) (fun _ _ _ h => h) (Or.inl ⟨by kernel_rfl, ?_⟩) hHeld ?_
    · intro w' hSw
      obtain ⟨s0, s1, s2, s3⟩ := hSw
      first | (go_simp; done) | (go_simp; with_reducible rfl) | (go_simp; rw [IntKind.wrap_i64]; omega) | (go_simp; omega)
    simp only [Act.put, List.setIfInBounds_toArray, List.set_cons_zero, List.set_cons_succ]
    refine wpAnyH_take (i := 1) (v := .pointer (some ⟨q, 0, none⟩)) rfl (by kernel_rfl) (by kernel_rfl) (by kernel_rfl) (fun _ _ _ h => h) (Or.inl ⟨by kernel_rfl, ?_⟩) hHeld ?_
    · intro w' hSw
      obtain ⟨s0, s1, s2, s3⟩ := hSw
      first | (go_simp; done) | (go_simp; with_reducible rfl) | (go_simp; rw [IntKind.wrap_i64]; omega) | (go_simp; omega)
    simp only [Act.put, List.setIfInBounds_toArray, List.set_cons_zero, List.set_cons_succ]
    refine wpAnyH_take (i := 2) (v := .pointer (some ⟨q, 0, none⟩)) rfl (by kernel_rfl) (by kernel_rfl) (by kernel_rfl) (fun _ _ _ h => h) (Or.inl ⟨by kernel_rfl, ?_⟩) hHeld ?_
    · intro w' hSw
      obtain ⟨s0, s1, s2, s3⟩ := hSw
      first | (go_simp; done) | (go_simp; with_reducible rfl) | (go_simp; rw [IntKind.wrap_i64]; omega) | (go_simp; omega)
    simp only [Act.put, List.setIfInBounds_toArray, List.set_cons_zero, List.set_cons_succ]
    refine wpAnyH_take (i := 3) (v := .pointer (some ⟨q, 1, none⟩)) rfl (by kernel_rfl) (by kernel_rfl) (by kernel_rfl) (fun _ _ _ h => h) (Or.inl ⟨by kernel_rfl, ?_⟩) hHeld ?_
    · intro w' hSw
      obtain ⟨s0, s1, s2, s3⟩ := hSw
      first | (go_simp; done) | (go_simp; with_reducible rfl) | (go_simp; rw [IntKind.wrap_i64]; omega) | (go_simp; omega)
    simp only [Act.put, List.setIfInBounds_toArray, List.set_cons_zero, List.set_cons_succ]
    refine wpAnyH_take (i := 5) (v := .agg #[.int .i64 (V (k * 4)), .int .i64 (V (k * 4 + 1)), .int .i64 (V (k * 4 + 2)), .int .i64 (V (k * 4 + 3))]) rfl (by kernel_rfl) (by kernel_rfl) (by kernel_rfl) (fun _ _ _ h => h) (Or.inl ⟨by kernel_rfl, ?_⟩) hHeld ?_
    · intro w' hSw
      obtain ⟨s0, s1, s2, s3⟩ := hSw
      first | (go_simp; done) | (go_simp; with_reducible rfl) | (go_simp; rw [IntKind.wrap_i64]; omega) | (go_simp; omega)
    simp only [Act.put, List.setIfInBounds_toArray, List.set_cons_zero, List.set_cons_succ]
    refine wpAnyH_take (i := 6) (v := .int .i64 (k : Int)) rfl (by kernel_rfl) (by kernel_rfl) (by kernel_rfl) (fun _ _ _ h => h) (Or.inl ⟨by kernel_rfl, ?_⟩) hHeld ?_
    · intro w' hSw
      obtain ⟨s0, s1, s2, s3⟩ := hSw
      first | (go_simp; done) | (go_simp; with_reducible rfl) | (go_simp; rw [IntKind.wrap_i64]; omega) | (go_simp; omega)
    simp only [Act.put, List.setIfInBounds_toArray, List.set_cons_zero, List.set_cons_succ]
    refine wpAnyH_take (i := 7) (v := .agg #[.int .i64 (V (k * 4)), .int .i64 (V (k * 4 + 1)), .int .i64 (V (k * 4 + 2)), .int .i64 (V (k * 4 + 3)), .int .i64 ((k : Int))]) rfl (by kernel_rfl) (by kernel_rfl) (by kernel_rfl) (fun _ _ _ h => h) (Or.inl ⟨by kernel_rfl, ?_⟩) hHeld ?_
    · intro w' hSw
      obtain ⟨s0, s1, s2, s3⟩ := hSw
      first | (go_simp; done) | (go_simp; with_reducible rfl) | (go_simp; rw [IntKind.wrap_i64]; omega) | (go_simp; omega)
    simp only [Act.put, List.setIfInBounds_toArray, List.set_cons_zero, List.set_cons_succ]
    refine wpAnyH_ready (rs := [4, 8]) (by kernel_rfl) (by simp) ?_
    refine ready_two ?_ ?_
    · refine ready_val v0 (.slice sl k cap) rfl (by kernel_rfl) ?_ (⟨n0, n1, n2, n3⟩) (fun hHeld => ?_) AllReadyH.nil
      · go_simp
      simp only [Act.put, List.setIfInBounds_toArray, List.set_cons_zero, List.set_cons_succ]
      refine wpAnyH_ready (rs := [8]) (by kernel_rfl) (by simp) ?_
      refine Exists.elim (show ∃ z, z = v0.alloc (.cells #[.int .i64 (V (k * 4)), .int .i64 (V (k * 4 + 1)), .int .i64 (V (k * 4 + 2)), .int .i64 (V (k * 4 + 3)), .int .i64 ((k : Int))] 55) from ⟨_, rfl⟩) (fun v0_3 hW_ => ?_)
      have ba_ : Below v0.heap.size v0 v0_3 := by rw [hW_]; exact (by repeat (first | with_reducible exact Below.refl _ _ | with_reducible refine Below.setCell ?_ (by first | omega | (simp; done) | (simp; omega)) _ | with_reducible refine bDrewN ?_ _ | with_reducible refine Below.drew ?_ | with_reducible refine Below.alloc ?_ (by first | omega | (simp; done) | (simp; omega)) _))
      have HA_ : Hid (QAt (fun b => w.heap.size ≤ b ∧ b ≠ mv) q v0_3 true k V (fun i => i)) := HV.out.below ba_
      have BA_ : Hid (Below w.heap.size w v0_3) := BV.out.trans (ba_.mono BV.out.size)
      have HXa_ : Hid (∀ b, v0_3.heap.size ≤ b → w.heap.size ≤ b ∧ b ≠ mv) := fun b hb => HXv.out b (Nat.le_trans ba_.size hb)
      have zma : mv < v0_3.heap.size := Nat.lt_of_lt_of_le zmv ba_.size
      have c1w : v0_3.cell? ⟨q, 1, none⟩ = some (.slice sl k cap) := (ba_.cell (p := ⟨q, 1, none⟩) zqv).trans c1v
      have p0 : v0_3.cell? ⟨mv, 0, none⟩ = some (.int .i64 (V (k * 4))) := (ba_.cell (p := ⟨mv, 0, none⟩) zmv).trans n0
      have p1 : v0_3.cell? ⟨mv, 1, none⟩ = some (.int .i64 (V (k * 4 + 1))) := (ba_.cell (p := ⟨mv, 1, none⟩) zmv).trans n1
      have p2 : v0_3.cell? ⟨mv, 2, none⟩ = some (.int .i64 (V (k * 4 + 2))) := (ba_.cell (p := ⟨mv, 2, none⟩) zmv).trans n2
      have p3 : v0_3.cell? ⟨mv, 3, none⟩ = some (.int .i64 (V (k * 4 + 3))) := (ba_.cell (p := ⟨mv, 3, none⟩) zmv).trans n3
      have l0 : v0_3.cell? ⟨v0.heap.size, 0, none⟩ = some (.int .i64 (V (k * 4))) := by rw [hW_]; simp [go_sem]
      have l1 : v0_3.cell? ⟨v0.heap.size, 1, none⟩ = some (.int .i64 (V (k * 4 + 1))) := by rw [hW_]; simp [go_sem]
      have l2 : v0_3.cell? ⟨v0.heap.size, 2, none⟩ = some (.int .i64 (V (k * 4 + 2))) := by rw [hW_]; simp [go_sem]
      have l3 : v0_3.cell? ⟨v0.heap.size, 3, none⟩ = some (.int .i64 (V (k * 4 + 3))) := by rw [hW_]; simp [go_sem]
      have l4 : v0_3.cell? ⟨v0.heap.size, 4, none⟩ = some (.int .i64 ((k : Int))) := by rw [hW_]; simp [go_sem]
      refine ready_val v0_3 (.slice (some ⟨v0.heap.size, 0, none⟩) 1 1) rfl (by kernel_rfl) ?_ (⟨p0, p1, p2, p3⟩) (fun hHeld => ?_) AllReadyH.nil
      · rw [hW_]; clear hW_; go_simp
      clear hW_
      simp only [Act.put, List.setIfInBounds_toArray, List.set_cons_zero, List.set_cons_succ]
      refine wpAnyH_ready (rs := [9]) (by kernel_rfl) (by simp) ?_
      refine ready_wp rfl (by kernel_rfl) (fun KK hK => ?_) AllReadyH.nil
      refine wp_placed (x0 := V (k * 4)) (x1 := V (k * 4 + 1)) (x2 := V (k * 4 + 2)) (x3 := V (k * 4 + 3)) (x4 := (k : Int)) 0 (.slice sl k cap) k (vals (qF V (fun i => i)) (k * 5)) (.tmp 22) (.tmp 26) (by kernel_rfl) (by kernel_rfl) (HA_.out.row c1w) v0.heap.size (by kernel_rfl) l0 l1 l2 l3 l4 (by omega) (Nat.zero_le _) ?_
      intro gn cap' v0_4 o_ g_ n_
      have GG := HA_.out.grow (a := k) c1w HXa_.out o_ g_ n_
      have f1 := GG.1
      have f2 := GG.2.1
      have f3 := GG.2.2.1
      have TG := GG.2.2.2.1
      have r0 := (TG.cell (p := ⟨mv, 0, none⟩) zma (fun h => h.2 rfl)).trans p0
      have r1 := (TG.cell (p := ⟨mv, 1, none⟩) zma (fun h => h.2 rfl)).trans p1
      have r2 := (TG.cell (p := ⟨mv, 2, none⟩) zma (fun h => h.2 rfl)).trans p2
      have r3 := (TG.cell (p := ⟨mv, 3, none⟩) zma (fun h => h.2 rfl)).trans p3
      have FF : Hid (_ ∧ _) := GG.2.2.2.2
      clear GG o_ g_ n_ TG
      refine hK.out _ _ (⟨r0, r1, r2, r3⟩) (fun hHeld => ?_)
      clear hK KK
      simp only [Act.put, List.setIfInBounds_toArray, List.set_cons_zero, List.set_cons_succ]
      refine wpAnyH_take (i := 10) (v := .pointer (some ⟨q, 0, none⟩)) rfl (by kernel_rfl) (by kernel_rfl) (by kernel_rfl) (fun _ _ _ h => h) (Or.inl ⟨by kernel_rfl, ?_⟩) hHeld ?_
      · intro w' hSw
        obtain ⟨s0, s1, s2, s3⟩ := hSw
        first | (go_simp; done) | (go_simp; with_reducible rfl) | (go_simp; rw [IntKind.wrap_i64]; omega) | (go_simp; omega)
      simp only [Act.put, List.setIfInBounds_toArray, List.set_cons_zero, List.set_cons_succ]
      refine wpAnyH_take (i := 11) (v := .pointer (some ⟨q, 1, none⟩)) rfl (by kernel_rfl) (by kernel_rfl) (by kernel_rfl) (fun _ _ _ h => h) (Or.inl ⟨by kernel_rfl, ?_⟩) hHeld ?_
      · intro w' hSw
        obtain ⟨s0, s1, s2, s3⟩ := hSw
        first | (go_simp; done) | (go_simp; with_reducible rfl) | (go_simp; rw [IntKind.wrap_i64]; omega) | (go_simp; omega)
      simp only [Act.put, List.setIfInBounds_toArray, List.set_cons_zero, List.set_cons_succ]
      refine wpAnyH_ready (rs := [12]) (by kernel_rfl) (by simp) ?_
      refine Exists.elim (show ∃ z, z = v0_4.setCell ⟨q, 1, none⟩ (.slice (some ⟨gn, 0, none⟩) (k + 1) cap') from ⟨_, rfl⟩) (fun v0_5 hW_ => ?_)
      have nqm : q ≠ mv := HV.out.1.2
      have F1 : QAt (fun b => w.heap.size ≤ b ∧ b ≠ mv) q v0_5 true (k + 1) V (pushP (fun i => i) k k) := by rw [hW_]; exact FF.out.1
      have F2 : Below w.heap.size w v0_5 := by rw [hW_]; exact BA_.out.trans (FF.out.2.below (fun _ h => h.1) BA_.out.size)
      have t0 : v0_5.cell? ⟨mv, 0, none⟩ = some (.int .i64 (V (k * 4))) := by rw [hW_, cell_elseQ nqm]; exact r0
      have t1 : v0_5.cell? ⟨mv, 1, none⟩ = some (.int .i64 (V (k * 4 + 1))) := by rw [hW_, cell_elseQ nqm]; exact r1
      have t2 : v0_5.cell? ⟨mv, 2, none⟩ = some (.int .i64 (V (k * 4 + 2))) := by rw [hW_, cell_elseQ nqm]; exact r2
      have t3 : v0_5.cell? ⟨mv, 3, none⟩ = some (.int .i64 (V (k * 4 + 3))) := by rw [hW_, cell_elseQ nqm]; exact r3
      refine ready_skp v0_5 rfl (by kernel_rfl) ?_ (⟨t0, t1, t2, t3⟩) (fun hHeld => ?_) AllReadyH.nil
      · rw [hW_]; clear hW_; go_simp
      clear hW_
      simp only [Act.put, List.setIfInBounds_toArray, List.set_cons_zero, List.set_cons_succ]
      refine wpAnyH_done (by kernel_rfl) ?_ _
      clear hHeld
      have HF1 : Hid (QAt (fun b => w.heap.size ≤ b) q v0_5 true (k + 1) V (fun i => i)) := (F1.mono (fun b _ hx => hx.1)).congr (fun i hi => by unfold pushP; by_cases e : i = k; exact (if_pos e).trans e.symm; exact if_neg e)
      have HF2 : Hid (Below w.heap.size w v0_5) := F2
      clear F1 F2
      go_wp2
      go_roundw
      case rel => exact ⟨k + 1, by omega, by go_num, HF1, HF2⟩
      case measure => simp [intOf]; omega
    · refine Exists.elim (show ∃ z, z = v0.alloc (.cells #[.int .i64 (V (k * 4)), .int .i64 (V (k * 4 + 1)), .int .i64 (V (k * 4 + 2)), .int .i64 (V (k * 4 + 3)), .int .i64 ((k : Int))] 55) from ⟨_, rfl⟩) (fun v0_2 hW_ => ?_)
      have ba_ : Below v0.heap.size v0 v0_2 := by rw [hW_]; exact (by repeat (first | with_reducible exact Below.refl _ _ | with_reducible refine Below.setCell ?_ (by first | omega | (simp; done) | (simp; omega)) _ | with_reducible refine bDrewN ?_ _ | with_reducible refine Below.drew ?_ | with_reducible refine Below.alloc ?_ (by first | omega | (simp; done) | (simp; omega)) _))
      have HA_ : Hid (QAt (fun b => w.heap.size ≤ b ∧ b ≠ mv) q v0_2 true k V (fun i => i)) := HV.out.below ba_
      have BA_ : Hid (Below w.heap.size w v0_2) := BV.out.trans (ba_.mono BV.out.size)
      have HXa_ : Hid (∀ b, v0_2.heap.size ≤ b → w.heap.size ≤ b ∧ b ≠ mv) := fun b hb => HXv.out b (Nat.le_trans ba_.size hb)
      have zma : mv < v0_2.heap.size := Nat.lt_of_lt_of_le zmv ba_.size
      have c1w : v0_2.cell? ⟨q, 1, none⟩ = some (.slice sl k cap) := (ba_.cell (p := ⟨q, 1, none⟩) zqv).trans c1v
      have p0 : v0_2.cell? ⟨mv, 0, none⟩ = some (.int .i64 (V (k * 4))) := (ba_.cell (p := ⟨mv, 0, none⟩) zmv).trans n0
      have p1 : v0_2.cell? ⟨mv, 1, none⟩ = some (.int .i64 (V (k * 4 + 1))) := (ba_.cell (p := ⟨mv, 1, none⟩) zmv).trans n1
      have p2 : v0_2.cell? ⟨mv, 2, none⟩ = some (.int .i64 (V (k * 4 + 2))) := (ba_.cell (p := ⟨mv, 2, none⟩) zmv).trans n2
      have p3 : v0_2.cell? ⟨mv, 3, none⟩ = some (.int .i64 (V (k * 4 + 3))) := (ba_.cell (p := ⟨mv, 3, none⟩) zmv).trans n3
      have l0 : v0_2.cell? ⟨v0.heap.size, 0, none⟩ = some (.int .i64 (V (k * 4))) := by rw [hW_]; simp [go_sem]
      have l1 : v0_2.cell? ⟨v0.heap.size, 1, none⟩ = some (.int .i64 (V (k * 4 + 1))) := by rw [hW_]; simp [go_sem]
      have l2 : v0_2.cell? ⟨v0.heap.size, 2, none⟩ = some (.int .i64 (V (k * 4 + 2))) := by rw [hW_]; simp [go_sem]
      have l3 : v0_2.cell? ⟨v0.heap.size, 3, none⟩ = some (.int .i64 (V (k * 4 + 3))) := by rw [hW_]; simp [go_sem]
      have l4 : v0_2.cell? ⟨v0.heap.size, 4, none⟩ = some (.int .i64 ((k : Int))) := by rw [hW_]; simp [go_sem]
      refine ready_val v0_2 (.slice (some ⟨v0.heap.size, 0, none⟩) 1 1) rfl (by kernel_rfl) ?_ (⟨p0, p1, p2, p3⟩) (fun hHeld => ?_) AllReadyH.nil
      · rw [hW_]; clear hW_; go_simp
      clear hW_
      simp only [Act.put, List.setIfInBounds_toArray, List.set_cons_zero, List.set_cons_succ]
      refine wpAnyH_ready (rs := [4]) (by kernel_rfl) (by simp) ?_
      have c1v : v0_2.cell? ⟨q, 1, none⟩ = some (.slice sl k cap) := c1w
      refine ready_val v0_2 (.slice sl k cap) rfl (by kernel_rfl) ?_ (⟨p0, p1, p2, p3⟩) (fun hHeld => ?_) AllReadyH.nil
      · go_simp
      simp only [Act.put, List.setIfInBounds_toArray, List.set_cons_zero, List.set_cons_succ]
      refine wpAnyH_ready (rs := [9]) (by kernel_rfl) (by simp) ?_
      refine ready_wp rfl (by kernel_rfl) (fun KK hK => ?_) AllReadyH.nil
      refine wp_placed (x0 := V (k * 4)) (x1 := V (k * 4 + 1)) (x2 := V (k * 4 + 2)) (x3 := V (k * 4 + 3)) (x4 := (k : Int)) 0 (.slice sl k cap) k (vals (qF V (fun i => i)) (k * 5)) (.tmp 22) (.tmp 26) (by kernel_rfl) (by kernel_rfl) (HA_.out.row c1w) v0.heap.size (by kernel_rfl) l0 l1 l2 l3 l4 (by omega) (Nat.zero_le _) ?_
      intro gn cap' v0_7 o_ g_ n_
      have GG := HA_.out.grow (a := k) c1w HXa_.out o_ g_ n_
      have f1 := GG.1
      have f2 := GG.2.1
      have f3 := GG.2.2.1
      have TG := GG.2.2.2.1
      have r0 := (TG.cell (p := ⟨mv, 0, none⟩) zma (fun h => h.2 rfl)).trans p0
      have r1 := (TG.cell (p := ⟨mv, 1, none⟩) zma (fun h => h.2 rfl)).trans p1
      have r2 := (TG.cell (p := ⟨mv, 2, none⟩) zma (fun h => h.2 rfl)).trans p2
      have r3 := (TG.cell (p := ⟨mv, 3, none⟩) zma (fun h => h.2 rfl)).trans p3
      have FF : Hid (_ ∧ _) := GG.2.2.2.2
      clear GG o_ g_ n_ TG
      refine hK.out _ _ (⟨r0, r1, r2, r3⟩) (fun hHeld => ?_)
      clear hK KK
      simp only [Act.put, List.setIfInBounds_toArray, List.set_cons_zero, List.set_cons_succ]
      refine wpAnyH_take (i := 10) (v := .pointer (some ⟨q, 0, none⟩)) rfl (by kernel_rfl) (by kernel_rfl) (by kernel_rfl) (fun _ _ _ h => h) (Or.inl ⟨by kernel_rfl, ?_⟩) hHeld ?_
      · intro w' hSw
        obtain ⟨s0, s1, s2, s3⟩ := hSw
        first | (go_simp; done) | (go_simp; with_reducible rfl) | (go_simp; rw [IntKind.wrap_i64]; omega) | (go_simp; omega)
      simp only [Act.put, List.setIfInBounds_toArray, List.set_cons_zero, List.set_cons_succ]
      refine wpAnyH_take (i := 11) (v := .pointer (some ⟨q, 1, none⟩)) rfl (by kernel_rfl) (by kernel_rfl) (by kernel_rfl) (fun _ _ _ h => h) (Or.inl ⟨by kernel_rfl, ?_⟩) hHeld ?_
      · intro w' hSw
        obtain ⟨s0, s1, s2, s3⟩ := hSw
        first | (go_simp; done) | (go_simp; with_reducible rfl) | (go_simp; rw [IntKind.wrap_i64]; omega) | (go_simp; omega)
      simp only [Act.put, List.setIfInBounds_toArray, List.set_cons_zero, List.set_cons_succ]
      refine wpAnyH_ready (rs := [12]) (by kernel_rfl) (by simp) ?_
      refine Exists.elim (show ∃ z, z = v0_7.setCell ⟨q, 1, none⟩ (.slice (some ⟨gn, 0, none⟩) (k + 1) cap') from ⟨_, rfl⟩) (fun v0_8 hW_ => ?_)
      have nqm : q ≠ mv := HV.out.1.2
      have F1 : QAt (fun b => w.heap.size ≤ b ∧ b ≠ mv) q v0_8 true (k + 1) V (pushP (fun i => i) k k) := by rw [hW_]; exact FF.out.1
      have F2 : Below w.heap.size w v0_8 := by rw [hW_]; exact BA_.out.trans (FF.out.2.below (fun _ h => h.1) BA_.out.size)
      have t0 : v0_8.cell? ⟨mv, 0, none⟩ = some (.int .i64 (V (k * 4))) := by rw [hW_, cell_elseQ nqm]; exact r0
      have t1 : v0_8.cell? ⟨mv, 1, none⟩ = some (.int .i64 (V (k * 4 + 1))) := by rw [hW_, cell_elseQ nqm]; exact r1
      have t2 : v0_8.cell? ⟨mv, 2, none⟩ = some (.int .i64 (V (k * 4 + 2))) := by rw [hW_, cell_elseQ nqm]; exact r2
      have t3 : v0_8.cell? ⟨mv, 3, none⟩ = some (.int .i64 (V (k * 4 + 3))) := by rw [hW_, cell_elseQ nqm]; exact r3
      refine ready_skp v0_8 rfl (by kernel_rfl) ?_ (⟨t0, t1, t2, t3⟩) (fun hHeld => ?_) AllReadyH.nil
      · rw [hW_]; clear hW_; go_simp
      clear hW_
      simp only [Act.put, List.setIfInBounds_toArray, List.set_cons_zero, List.set_cons_succ]
      refine wpAnyH_done (by kernel_rfl) ?_ _
      clear hHeld
      have HF1 : Hid (QAt (fun b => w.heap.size ≤ b) q v0_8 true (k + 1) V (fun i => i)) := (F1.mono (fun b _ hx => hx.1)).congr (fun i hi => by unfold pushP; by_cases e : i = k; exact (if_pos e).trans e.symm; exact if_neg e)
      have HF2 : Hid (Below w.heap.size w v0_8) := F2
      clear F1 F2
      go_wp2
      go_roundw
      case rel => exact ⟨k + 1, by omega, by go_num, HF1, HF2⟩
      case measure => simp [intOf]; omega
set_option maxRecDepth 20000 in
set_option maxHeartbeats 4000000 in
theorem queueOfStart_any (s : Option Addr) (n c : Nat) (V : Nat → Int) (w : World) (hn : n ≤ 60) (HR : Hid (RowI w s (n * 4) V)) :
    Calls Try.prog 31 #[.slice s n c, byV false] w fun e w' => ∃ q P, e = .returned (.pointer (some ⟨q, 0, none⟩)) ∧ w.heap.size ≤ q ∧ QAt (fun b => w.heap.size ≤ b) q w' false n V P ∧ Below w.heap.size w w' ∧ HeapG (kO false V) 0 n P ∧ Hold n P (fun a => a < n) := by
  have hby : byV false = .iface 61 (.agg #[]) := rfl
  have HBY : Hid (byV false = .iface 61 (.agg #[])) := hby
  rw [hby]
  clear hby
  have hN : (n : Int) ≤ 60 := by omega
  go_enter Try.func31, Try.ntmps31
  go_wp2_with fail
  obtain ⟨q, hq⟩ : ∃ z, w.heap.size = z := ⟨_, rfl⟩
  obtain ⟨wa, hwa⟩ : ∃ z, z = w.alloc (.cells #[.iface 61 (.agg #[]), .slice none 0 0] 75) := ⟨_, rfl⟩
  rw [← hwa, hq]
  have HQa : Hid (QAt (fun b => w.heap.size ≤ b) q wa false 0 V (fun i => i)) := ⟨by rw [← hq]; exact Nat.le_refl _, none, 0, by rw [hwa, ← hq, HBY.out]; exact heap_alloc_new w _, ⟨by simp [vals], .inl ⟨rfl, rfl⟩⟩, fun g e => by cases e⟩
  have HBa : Hid (Below w.heap.size w wa) := by show Below _ _ _; rw [hwa]; exact (by repeat (first | with_reducible exact Below.refl _ _ | with_reducible refine Below.setCell ?_ (by first | omega | (simp; done) | (simp; omega)) _ | with_reducible refine bDrewN ?_ _ | with_reducible refine Below.drew ?_ | with_reducible refine Below.alloc ?_ (by first | omega | (simp; done) | (simp; omega)) _))
  have HQ0 : Hid (w.heap.size = q) := hq
  clear hwa hq
  go_loopw [13] (fun i wr => ∃ k : Nat, k ≤ n ∧ i = .int .i64 k ∧ Hid (QAt (fun b => w.heap.size ≤ b) q wr false k V (fun i => i)) ∧ Hid (Below w.heap.size w wr)) (fun i _ => n - (intOf i).toNat)
  case atStart => exact ⟨0, Nat.zero_le _, rfl, HQa, HBa⟩
  case round =>
    clear HQa HBa
    obtain ⟨k, hk, rfl, HQ, HB⟩ := hrel
    have hB := HB.out
    by_cases h1 : k < n
    case neg =>
      obtain rfl : k = n := by omega
      have HH : Hid (Hold k (fun i => i) (fun a => a < k)) := ⟨fun i hi => hi, fun a ha => ⟨a, ha, rfl⟩, fun i j _ _ e => e⟩
      have HS : Hid (∀ a, a < k → a < 60) := fun a ha => by omega
      have hq1 : w.heap.size ≤ q := HQ.out.1
      go_wp2_with fail
      refine (init_any false (fun b => w.heap.size ≤ b) q k V (fun i => i) (fun a => a < k) _ (by omega) HH HS HQ).mono ?_
      rintro e w2 ⟨rfl, P2, hQ2, hT2, hH2, hR2⟩
      have HQ2 : Hid (QAt (fun b => w.heap.size ≤ b) q w2 false k V P2) := hQ2
      have HB2 : Hid (Below w.heap.size w w2) := HB.out.trans (hT2.below (fun _ h => h) HB.out.size)
      have HG2 : Hid (HeapG (kO false V) 0 k P2) := hH2
      have HH2 : Hid (Hold k P2 (fun a => a < k)) := hR2.1 _ k (Nat.le_refl _) HH.out
      clear hQ2 hT2 hH2 hR2
      go_wp2
      go_ret
      exact ⟨q, P2, rfl, hq1, HQ2.out, HB2.out, HG2.out, HH2.out⟩
    have k1 : (k : Int) < (n : Int) := by omega
    obtain ⟨g, o, rfl, hg, c0⟩ := HR.out (k * 4) (by omega)
    obtain ⟨g', o', e', hg1, c1⟩ := HR.out (k * 4 + 1) (by omega)
    cases e'
    obtain ⟨g', o', e', hg2, c2⟩ := HR.out (k * 4 + 2) (by omega)
    cases e'
    obtain ⟨g', o', e', hg3, c3⟩ := HR.out (k * 4 + 3) (by omega)
    cases e'
    have d0 : wr.cell? ⟨g, o + k * 4, none⟩ = some (.int .i64 (V (k * 4))) := (hB.cell (p := ⟨g, o + k * 4, none⟩) hg).trans c0
    have d1 : wr.cell? ⟨g, o + k * 4 + 1, none⟩ = some (.int .i64 (V (k * 4 + 1))) := (hB.cell (p := ⟨g, o + (k * 4 + 1), none⟩) hg).trans c1
    have d2 : wr.cell? ⟨g, o + k * 4 + 2, none⟩ = some (.int .i64 (V (k * 4 + 2))) := (hB.cell (p := ⟨g, o + (k * 4 + 2), none⟩) hg).trans c2
    have d3 : wr.cell? ⟨g, o + k * 4 + 3, none⟩ = some (.int .i64 (V (k * 4 + 3))) := (hB.cell (p := ⟨g, o + (k * 4 + 3), none⟩) hg).trans c3
    clear hB c0 c1 c2 c3 hg hg1 hg2 hg3
    go_upto_region 5 with fail
    have hq1 : w.heap.size ≤ q := HQ.out.1
    have HQm : Hid (QAt (fun b => w.heap.size ≤ b ∧ b ≠ wr.heap.size) q wr false k V (fun i => i)) := HQ.out.mono (fun b hb hx => ⟨hx, Nat.ne_of_lt hb⟩)
    have sB := HB.out.size
    clear HQ d0 d1 d2 d3
    obtain ⟨wm, hwm⟩ : ∃ z, z = wr.alloc (.cells #[.int .i64 (V (k * 4)), .int .i64 (V (k * 4 + 1)), .int .i64 (V (k * 4 + 2)), .int .i64 (V (k * 4 + 3))] 41) := ⟨_, rfl⟩
    rw [← hwm]
    obtain ⟨mv, hmv⟩ : ∃ z, wr.heap.size = z := ⟨_, rfl⟩
    rw [hmv] at HQm sB ⊢
    have bm : Below wr.heap.size wr wm := by rw [hwm]; exact (by repeat (first | with_reducible exact Below.refl _ _ | with_reducible refine Below.setCell ?_ (by first | omega | (simp; done) | (simp; omega)) _ | with_reducible refine bDrewN ?_ _ | with_reducible refine Below.drew ?_ | with_reducible refine Below.alloc ?_ (by first | omega | (simp; done) | (simp; omega)) _))
    have zm : mv < wm.heap.size := by rw [hwm, ← hmv]; simp
    have m0 : wm.cell? ⟨mv, 0, none⟩ = some (.int .i64 (V (k * 4))) := by rw [hwm, ← hmv]; simp [go_sem]
    have m1 : wm.cell? ⟨mv, 1, none⟩ = some (.int .i64 (V (k * 4 + 1))) := by rw [hwm, ← hmv]; simp [go_sem]
    have m2 : wm.cell? ⟨mv, 2, none⟩ = some (.int .i64 (V (k * 4 + 2))) := by rw [hwm, ← hmv]; simp [go_sem]
    have m3 : wm.cell? ⟨mv, 3, none⟩ = some (.int .i64 (V (k * 4 + 3))) := by rw [hwm, ← hmv]; simp [go_sem]
    have HQw : Hid (QAt (fun b => w.heap.size ≤ b ∧ b ≠ mv) q wm false k V (fun i => i)) := HQm.out.below bm
    have HBw : Hid (Below w.heap.size w wm) := HB.out.trans (bm.mono HB.out.size)
    clear hwm bm HQm HB hmv
    obtain ⟨sl, cap, c1⟩ := HQw.out.len
    have zq := HQw.out.lt
    refine wp_region_held_drew (S := fun w' => w'.cell? ⟨mv, 0, none⟩ = some (.int .i64 (V (k * 4))) ∧ w'.cell? ⟨mv, 1, none⟩ = some (.int .i64 (V (k * 4 + 1))) ∧ w'.cell? ⟨mv, 2, none⟩ = some (.int .i64 (V (k * 4 + 2))) ∧ w'.cell? ⟨mv, 3, none⟩ = some (.int .i64 (V (k * 4 + 3)))) (by kernel_rfl) ?_ (fun hHeld => ?_)
    · exact ⟨by simpa [go_sem] using m0, by simpa [go_sem] using m1, by simpa [go_sem] using m2, by simpa [go_sem] using m3⟩
    obtain ⟨v0, hv0⟩ : ∃ z, z = wm.drew := ⟨_, rfl⟩
    try rw [← hv0] at hHeld
    rw [← hv0]
    have bv0 : Below wm.heap.size wm v0 := by rw [hv0]; exact Below.drew (Below.refl _ _)
    clear hv0
    have HV : Hid (QAt (fun b => w.heap.size ≤ b ∧ b ≠ mv) q v0 false k V (fun i => i)) := HQw.out.below bv0
    have BV : Hid (Below w.heap.size w v0) := HBw.out.trans (bv0.mono HBw.out.size)
    have HXv : Hid (∀ b, v0.heap.size ≤ b → w.heap.size ≤ b ∧ b ≠ mv) := fun b hb => ⟨Nat.le_trans BV.out.size hb, fun e => by have := bv0.size; omega⟩
    have c1v : v0.cell? ⟨q, 1, none⟩ = some (.slice sl k cap) := (bv0.cell (p := ⟨q, 1, none⟩) zq).trans c1
    have n0 : v0.cell? ⟨mv, 0, none⟩ = some (.int .i64 (V (k * 4))) := (bv0.cell (p := ⟨mv, 0, none⟩) zm).trans m0
    have n1 : v0.cell? ⟨mv, 1, none⟩ = some (.int .i64 (V (k * 4 + 1))) := (bv0.cell (p := ⟨mv, 1, none⟩) zm).trans m1
    have n2 : v0.cell? ⟨mv, 2, none⟩ = some (.int .i64 (V (k * 4 + 2))) := (bv0.cell (p := ⟨mv, 2, none⟩) zm).trans m2
    have n3 : v0.cell? ⟨mv, 3, none⟩ = some (.int .i64 (V (k * 4 + 3))) := (bv0.cell (p := ⟨mv, 3, none⟩) zm).trans m3
    have zqv : q < v0.heap.size := Nat.lt_of_lt_of_le zq bv0.size
    have zmv : mv < v0.heap.size := Nat.lt_of_lt_of_le zm bv0.size
    clear bv0 HQw HBw c1 zq m0 m1 m2 m3 zm
    refine wpAnyH_take (i := 0) (v := .pointer (some ⟨q, 0, none⟩)) rfl (by kernel_rfl) (by kernel_rfl) (by kernel_rfl) (fun _ _ _ h => h) (Or.inl ⟨by kernel_rfl, ?_⟩) hHeld ?_
    · intro w' hSw
      obtain ⟨s0, s1, s2, s3⟩ := hSw
      first | (go_simp; done) | (go_simp; with_reducible rfl) | (go_simp; rw [IntKind.wrap_i64]; omega) | (go_simp; omega)
    simp only [Act.put, List.setIfInBounds_toArray, List.set_cons_zero, List.set_cons_succ]
    refine wpAnyH_take (i := 1) (v := .pointer (some ⟨q, 0, none⟩)) rfl (by kernel_rfl) (by kernel_rfl) (by kernel_rfl) (fun _ _ _ h => h) (Or.inl ⟨by kernel_rfl, ?_⟩) hHeld ?_
    · intro w' hSw
      obtain ⟨s0, s1, s2, s3⟩ := hSw
      first | (go_simp; done) | (go_simp; with_reducible rfl) | (go_simp; rw [IntKind.wrap_i64]; omega) | (go_simp; omega)
    simp only [Act.put, List.setIfInBounds_toArray, List.set_cons_zero, List.set_cons_succ]
    refine wpAnyH_take (i := 2) (v := .pointer (some ⟨q, 0, none⟩)) rfl (by kernel_rfl) (by kernel_rfl) (by kernel_rfl) (fun _ _ _ h => h) (Or.inl ⟨by kernel_rfl, ?_⟩) hHeld ?_
    · intro w' hSw
      obtain ⟨s0, s1, s2, s3⟩ := hSw
      first | (go_simp; done) | (go_simp; with_reducible rfl) | (go_simp; rw [IntKind.wrap_i64]; omega) | (go_simp; omega)
    simp only [Act.put, List.setIfInBounds_toArray, List.set_cons_zero, List.set_cons_succ]
    refine wpAnyH_take (i := 3) (v := .pointer (some ⟨q, 1, none⟩)) rfl (by kernel_rfl) (by kernel_rfl) (by kernel_rfl) (fun _ _ _ h => h) (Or.inl ⟨by kernel_rfl, ?_⟩) hHeld ?_
    · intro w' hSw
      obtain ⟨s0, s1, s2, s3⟩ := hSw
      first | (go_simp; done) | (go_simp; with_reducible rfl) | (go_simp; rw [IntKind.wrap_i64]; omega) | (go_simp; omega)
    simp only [Act.put, List.setIfInBounds_toArray, List.set_cons_zero, List.set_cons_succ]
    refine wpAnyH_take (i := 5) (v := .agg #[.int .i64 (V (k * 4)), .int .i64 (V (k * 4 + 1)), .int .i64 (V (k * 4 + 2)), .int .i64 (V (k * 4 + 3))]) rfl (by kernel_rfl) (by kernel_rfl) (by kernel_rfl) (fun _ _ _ h => h) (Or.inl ⟨by kernel_rfl, ?_⟩) hHeld ?_
    · intro w' hSw
      obtain ⟨s0, s1, s2, s3⟩ := hSw
      first | (go_simp; done) | (go_simp; with_reducible rfl) | (go_simp; rw [IntKind.wrap_i64]; omega) | (go_simp; omega)
    simp only [Act.put, List.setIfInBounds_toArray, List.set_cons_zero, List.set_cons_succ]
    refine wpAnyH_take (i := 6) (v := .int .i64 (k : Int)) rfl (by kernel_rfl) (by kernel_rfl) (by kernel_rfl) (fun _ _ _ h => h) (Or.inl ⟨by kernel_rfl, ?_⟩) hHeld ?_
    · intro w' hSw
      obtain ⟨s0, s1, s2, s3⟩ := hSw
      first | (go_simp; done) | (go_simp; with_reducible rfl) | (go_simp; rw [IntKind.wrap_i64]; omega) | (go_simp; omega)
    simp only [Act.put, List.setIfInBounds_toArray, List.set_cons_zero, List.set_cons_succ]
    refine wpAnyH_take (i := 7) (v := .agg #[.int .i64 (V (k * 4)), .int .i64 (V (k * 4 + 1)), .int .i64 (V (k * 4 + 2)), .int .i64 (V (k * 4 + 3)), .int .i64 ((k : Int))]) rfl (by kernel_rfl) (by kernel_rfl) (by kernel_rfl) (fun _ _ _ h => h) (Or.inl ⟨by kernel_rfl, ?_⟩) hHeld ?_
    · intro w' hSw
      obtain ⟨s0, s1, s2, s3⟩ := hSw
      first | (go_simp; done) | (go_simp; with_reducible rfl) | (go_simp; rw [IntKind.wrap_i64]; omega) | (go_simp; omega)
    simp only [Act.put, List.setIfInBounds_toArray, List.set_cons_zero, List.set_cons_succ]
    refine wpAnyH_ready (rs := [4, 8]) (by kernel_rfl) (by simp) ?_
    refine ready_two ?_ ?_
    · refine ready_val v0 (.slice sl k cap) rfl (by kernel_rfl) ?_ (⟨n0, n1, n2, n3⟩) (fun hHeld => ?_) AllReadyH.nil
      · go_simp
      simp only [Act.put, List.setIfInBounds_toArray, List.set_cons_zero, List.set_cons_succ]
      refine wpAnyH_ready (rs := [8]) (by kernel_rfl) (by simp) ?_
      refine Exists.elim (show ∃ z, z = v0.alloc (.cells #[.int .i64 (V (k * 4)), .int .i64 (V (k * 4 + 1)), .int .i64 (V (k * 4 + 2)), .int .i64 (V (k * 4 + 3)), .int .i64 ((k : Int))] 55) from ⟨_, rfl⟩) (fun v0_3 hW_ => ?_)
      have ba_ : Below v0.heap.size v0 v0_3 := by rw [hW_]; exact (by repeat (first | with_reducible exact Below.refl _ _ | with_reducible refine Below.setCell ?_ (by first | omega | (simp; done) | (simp; omega)) _ | with_reducible refine bDrewN ?_ _ | with_reducible refine Below.drew ?_ | with_reducible refine Below.alloc ?_ (by first | omega | (simp; done) | (simp; omega)) _))
      have HA_ : Hid (QAt (fun b => w.heap.size ≤ b ∧ b ≠ mv) q v0_3 false k V (fun i => i)) := HV.out.below ba_
      have BA_ : Hid (Below w.heap.size w v0_3) := BV.out.trans (ba_.mono BV.out.size)
      have HXa_ : Hid (∀ b, v0_3.heap.size ≤ b → w.heap.size ≤ b ∧ b ≠ mv) := fun b hb => HXv.out b (Nat.le_trans ba_.size hb)
      have zma : mv < v0_3.heap.size := Nat.lt_of_lt_of_le zmv ba_.size
      have c1w : v0_3.cell? ⟨q, 1, none⟩ = some (.slice sl k cap) := (ba_.cell (p := ⟨q, 1, none⟩) zqv).trans c1v
      have p0 : v0_3.cell? ⟨mv, 0, none⟩ = some (.int .i64 (V (k * 4))) := (ba_.cell (p := ⟨mv, 0, none⟩) zmv).trans n0
      have p1 : v0_3.cell? ⟨mv, 1, none⟩ = some (.int .i64 (V (k * 4 + 1))) := (ba_.cell (p := ⟨mv, 1, none⟩) zmv).trans n1
      have p2 : v0_3.cell? ⟨mv, 2, none⟩ = some (.int .i64 (V (k * 4 + 2))) := (ba_.cell (p := ⟨mv, 2, none⟩) zmv).trans n2
      have p3 : v0_3.cell? ⟨mv, 3, none⟩ = some (.int .i64 (V (k * 4 + 3))) := (ba_.cell (p := ⟨mv, 3, none⟩) zmv).trans n3
      have l0 : v0_3.cell? ⟨v0.heap.size, 0, none⟩ = some (.int .i64 (V (k * 4))) := by rw [hW_]; simp [go_sem]
      have l1 : v0_3.cell? ⟨v0.heap.size, 1, none⟩ = some (.int .i64 (V (k * 4 + 1))) := by rw [hW_]; simp [go_sem]
      have l2 : v0_3.cell? ⟨v0.heap.size, 2, none⟩ = some (.int .i64 (V (k * 4 + 2))) := by rw [hW_]; simp [go_sem]
      have l3 : v0_3.cell? ⟨v0.heap.size, 3, none⟩ = some (.int .i64 (V (k * 4 + 3))) := by rw [hW_]; simp [go_sem]
      have l4 : v0_3.cell? ⟨v0.heap.size, 4, none⟩ = some (.int .i64 ((k : Int))) := by rw [hW_]; simp [go_sem]
      refine ready_val v0_3 (.slice (some ⟨v0.heap.size, 0, none⟩) 1 1) rfl (by kernel_rfl) ?_ (⟨p0, p1, p2, p3⟩) (fun hHeld => ?_) AllReadyH.nil
      · rw [hW_]; clear hW_; go_simp
      clear hW_
      simp only [Act.put, List.setIfInBounds_toArray, List.set_cons_zero, List.set_cons_succ]
      refine wpAnyH_ready (rs := [9]) (by kernel_rfl) (by simp) ?_
      refine ready_wp rfl (by kernel_rfl) (fun KK hK => ?_) AllReadyH.nil
      refine wp_placed (x0 := V (k * 4)) (x1 := V (k * 4 + 1)) (x2 := V (k * 4 + 2)) (x3 := V (k * 4 + 3)) (x4 := (k : Int)) 0 (.slice sl k cap) k (vals (qF V (fun i => i)) (k * 5)) (.tmp 22) (.tmp 26) (by kernel_rfl) (by kernel_rfl) (HA_.out.row c1w) v0.heap.size (by kernel_rfl) l0 l1 l2 l3 l4 (by omega) (Nat.zero_le _) ?_
      intro gn cap' v0_4 o_ g_ n_
      have GG := HA_.out.grow (a := k) c1w HXa_.out o_ g_ n_
      have f1 := GG.1
      have f2 := GG.2.1
      have f3 := GG.2.2.1
      have TG := GG.2.2.2.1
      have r0 := (TG.cell (p := ⟨mv, 0, none⟩) zma (fun h => h.2 rfl)).trans p0
      have r1 := (TG.cell (p := ⟨mv, 1, none⟩) zma (fun h => h.2 rfl)).trans p1
      have r2 := (TG.cell (p := ⟨mv, 2, none⟩) zma (fun h => h.2 rfl)).trans p2
      have r3 := (TG.cell (p := ⟨mv, 3, none⟩) zma (fun h => h.2 rfl)).trans p3
      have FF : Hid (_ ∧ _) := GG.2.2.2.2
      clear GG o_ g_ n_ TG
      refine hK.out _ _ (⟨r0, r1, r2, r3⟩) (fun hHeld => ?_)
      clear hK KK
      simp only [Act.put, List.setIfInBounds_toArray, List.set_cons_zero, List.set_cons_succ]
      refine wpAnyH_take (i := 10) (v := .pointer (some ⟨q, 0, none⟩)) rfl (by kernel_rfl) (by kernel_rfl) (by kernel_rfl) (fun _ _ _ h => h) (Or.inl ⟨by kernel_rfl, ?_⟩) hHeld ?_
      · intro w' hSw
        obtain ⟨s0, s1, s2, s3⟩ := hSw
        first | (go_simp; done) | (go_simp; with_reducible rfl) | (go_simp; rw [IntKind.wrap_i64]; omega) | (go_simp; omega)
      simp only [Act.put, List.setIfInBounds_toArray, List.set_cons_zero, List.set_cons_succ]
      refine wpAnyH_take (i := 11) (v := .pointer (some ⟨q, 1, none⟩)) rfl (by kernel_rfl) (by kernel_rfl) (by kernel_rfl) (fun _ _ _ h => h) (Or.inl ⟨by kernel_rfl, ?_⟩) hHeld ?_
      · intro w' hSw
        obtain ⟨s0, s1, s2, s3⟩ := hSw
        first | (go_simp; done) | (go_simp; with_reducible rfl) | (go_simp; rw [IntKind.wrap_i64]; omega) | (go_simp; omega)
      simp only [Act.put, List.setIfInBounds_toArray, List.set_cons_zero, List.set_cons_succ]
      refine wpAnyH_ready (rs := [12]) (by kernel_rfl) (by simp) ?_
      refine Exists.elim (show ∃ z, z = v0_4.setCell ⟨q, 1, none⟩ (.slice (some ⟨gn, 0, none⟩) (k + 1) cap') from ⟨_, rfl⟩) (fun v0_5 hW_ => ?_)
      have nqm : q ≠ mv := HV.out.1.2
      have F1 : QAt (fun b => w.heap.size ≤ b ∧ b ≠ mv) q v0_5 false (k + 1) V (pushP (fun i => i) k k) := by rw [hW_]; exact FF.out.1
      have F2 : Below w.heap.size w v0_5 := by rw [hW_]; exact BA_.out.trans (FF.out.2.below (fun _ h => h.1) BA_.out.size)
      have t0 : v0_5.cell? ⟨mv, 0, none⟩ = some (.int .i64 (V (k * 4))) := by rw [hW_, cell_elseQ nqm]; exact r0
      have t1 : v0_5.cell? ⟨mv, 1, none⟩ = some (.int .i64 (V (k * 4 + 1))) := by rw [hW_, cell_elseQ nqm]; exact r1
      have t2 : v0_5.cell? ⟨mv, 2, none⟩ = some (.int .i64 (V (k * 4 + 2))) := by rw [hW_, cell_elseQ nqm]; exact r2
      have t3 : v0_5.cell? ⟨mv, 3, none⟩ = some (.int .i64 (V (k * 4 + 3))) := by rw [hW_, cell_elseQ nqm]; exact r3
      refine ready_skp v0_5 rfl (by kernel_rfl) ?_ (⟨t0, t1, t2, t3⟩) (fun hHeld => ?_) AllReadyH.nil
      · rw [hW_]; clear hW_; go_simp
      clear hW_
      simp only [Act.put, List.setIfInBounds_toArray, List.set_cons_zero, List.set_cons_succ]
      refine wpAnyH_done (by kernel_rfl) ?_ _
      clear hHeld
      have HF1 : Hid (QAt (fun b => w.heap.size ≤ b) q v0_5 false (k + 1) V (fun i => i)) := (F1.mono (fun b _ hx => hx.1)).congr (fun i hi => by unfold pushP; by_cases e : i = k; exact (if_pos e).trans e.symm; exact if_neg e)
      have HF2 : Hid (Below w.heap.size w v0_5) := F2
      clear F1 F2
      go_wp2
      go_roundw
      case rel => exact ⟨k + 1, by omega, by go_num, HF1, HF2⟩
      case measure => simp [intOf]; omega
    · refine Exists.elim (show ∃ z, z = v0.alloc (.cells #[.int .i64 (V (k * 4)), .int .i64 (V (k * 4 + 1)), .int .i64 (V (k * 4 + 2)), .int .i64 (V (k * 4 + 3)), .int .i64 ((k : Int))] 55) from ⟨_, rfl⟩) (fun v0_2 hW_ => ?_)
      have ba_ : Below v0.heap.size v0 v0_2 := by rw [hW_]; exact (by repeat (first | with_reducible exact Below.refl _ _ | with_reducible refine Below.setCell ?_ (by first | omega | (simp; done) | (simp; omega)) _ | with_reducible refine bDrewN ?_ _ | with_reducible refine Below.drew ?_ | with_reducible refine Below.alloc ?_ (by first | omega | (simp; done) | (simp; omega)) _))
      have HA_ : Hid (QAt (fun b => w.heap.size ≤ b ∧ b ≠ mv) q v0_2 false k V (fun i => i)) := HV.out.below ba_
      have BA_ : Hid (Below w.heap.size w v0_2) := BV.out.trans (ba_.mono BV.out.size)
      have HXa_ : Hid (∀ b, v0_2.heap.size ≤ b → w.heap.size ≤ b ∧ b ≠ mv) := fun b hb => HXv.out b (Nat.le_trans ba_.size hb)
      have zma : mv < v0_2.heap.size := Nat.lt_of_lt_of_le zmv ba_.size
      have c1w : v0_2.cell? ⟨q, 1, none⟩ = some (.slice sl k cap) := (ba_.cell (p := ⟨q, 1, none⟩) zqv).trans c1v
      have p0 : v0_2.cell? ⟨mv, 0, none⟩ = some (.int .i64 (V (k * 4))) := (ba_.cell (p := ⟨mv, 0, none⟩) zmv).trans n0
      have p1 : v0_2.cell? ⟨mv, 1, none⟩ = some (.int .i64 (V (k * 4 + 1))) := (ba_.cell (p := ⟨mv, 1, none⟩) zmv).trans n1
      have p2 : v0_2.cell? ⟨mv, 2, none⟩ = some (.int .i64 (V (k * 4 + 2))) := (ba_.cell (p := ⟨mv, 2, none⟩) zmv).trans n2
      have p3 : v0_2.cell? ⟨mv, 3, none⟩ = some (.int .i64 (V (k * 4 + 3))) := (ba_.cell (p := ⟨mv, 3, none⟩) zmv).trans n3
      have l0 : v0_2.cell? ⟨v0.heap.size, 0, none⟩ = some (.int .i64 (V (k * 4))) := by rw [hW_]; simp [go_sem]
      have l1 : v0_2.cell? ⟨v0.heap.size, 1, none⟩ = some (.int .i64 (V (k * 4 + 1))) := by rw [hW_]; simp [go_sem]
      have l2 : v0_2.cell? ⟨v0.heap.size, 2, none⟩ = some (.int .i64 (V (k * 4 + 2))) := by rw [hW_]; simp [go_sem]
      have l3 : v0_2.cell? ⟨v0.heap.size, 3, none⟩ = some (.int .i64 (V (k * 4 + 3))) := by rw [hW_]; simp [go_sem]
      have l4 : v0_2.cell? ⟨v0.heap.size, 4, none⟩ = some (.int .i64 ((k : Int))) := by rw [hW_]; simp [go_sem]
      refine ready_val v0_2 (.slice (some ⟨v0.heap.size, 0, none⟩) 1 1) rfl (by kernel_rfl) ?_ (⟨p0, p1, p2, p3⟩) (fun hHeld => ?_) AllReadyH.nil
      · rw [hW_]; clear hW_; go_simp
      clear hW_
      simp only [Act.put, List.setIfInBounds_toArray, List.set_cons_zero, List.set_cons_succ]
      refine wpAnyH_ready (rs := [4]) (by kernel_rfl) (by simp) ?_
      have c1v : v0_2.cell? ⟨q, 1, none⟩ = some (.slice sl k cap) := c1w
      refine ready_val v0_2 (.slice sl k cap) rfl (by kernel_rfl) ?_ (⟨p0, p1, p2, p3⟩) (fun hHeld => ?_) AllReadyH.nil
      · go_simp
      simp only [Act.put, List.setIfInBounds_toArray, List.set_cons_zero, List.set_cons_succ]
      refine wpAnyH_ready (rs := [9]) (by kernel_rfl) (by simp) ?_
      refine ready_wp rfl (by kernel_rfl) (fun KK hK => ?_) AllReadyH.nil
      refine wp_placed (x0 := V (k * 4)) (x1 := V (k * 4 + 1)) (x2 := V (k * 4 + 2)) (x3 := V (k * 4 + 3)) (x4 := (k : Int)) 0 (.slice sl k cap) k (vals (qF V (fun i => i)) (k * 5)) (.tmp 22) (.tmp 26) (by kernel_rfl) (by kernel_rfl) (HA_.out.row c1w) v0.heap.size (by kernel_rfl) l0 l1 l2 l3 l4 (by omega) (Nat.zero_le _) ?_
      intro gn cap' v0_7 o_ g_ n_
      have GG := HA_.out.grow (a := k) c1w HXa_.out o_ g_ n_
      have f1 := GG.1
      have f2 := GG.2.1
      have f3 := GG.2.2.1
      have TG := GG.2.2.2.1
      have r0 := (TG.cell (p := ⟨mv, 0, none⟩) zma (fun h => h.2 rfl)).trans p0
      have r1 := (TG.cell (p := ⟨mv, 1, none⟩) zma (fun h => h.2 rfl)).trans p1
      have r2 := (TG.cell (p := ⟨mv, 2, none⟩) zma (fun h => h.2 rfl)).trans p2
      have r3 := (TG.cell (p := ⟨mv, 3, none⟩) zma (fun h => h.2 rfl)).trans p3
      have FF : Hid (_ ∧ _) := GG.2.2.2.2
      clear GG o_ g_ n_ TG
      refine hK.out _ _ (⟨r0, r1, r2, r3⟩) (fun hHeld => ?_)
      clear hK KK
      simp only [Act.put, List.setIfInBounds_toArray, List.set_cons_zero, List.set_cons_succ]
      refine wpAnyH_take (i := 10) (v := .pointer (some ⟨q, 0, none⟩)) rfl (by kernel_rfl) (by kernel_rfl) (by kernel_rfl) (fun _ _ _ h => h) (Or.inl ⟨by kernel_rfl, ?_⟩) hHeld ?_
      · intro w' hSw
        obtain ⟨s0, s1, s2, s3⟩ := hSw
        first | (go_simp; done) | (go_simp; with_reducible rfl) | (go_simp; rw [IntKind.wrap_i64]; omega) | (go_simp; omega)
      simp only [Act.put, List.setIfInBounds_toArray, List.set_cons_zero, List.set_cons_succ]
      refine wpAnyH_take (i := 11) (v := .pointer (some ⟨q, 1, none⟩)) rfl (by kernel_rfl) (by kernel_rfl) (by kernel_rfl) (fun _ _ _ h => h) (Or.inl ⟨by kernel_rfl, ?_⟩) hHeld ?_
      · intro w' hSw
        obtain ⟨s0, s1, s2, s3⟩ := hSw
        first | (go_simp; done) | (go_simp; with_reducible rfl) | (go_simp; rw [IntKind.wrap_i64]; omega) | (go_simp; omega)
      simp only [Act.put, List.setIfInBounds_toArray, List.set_cons_zero, List.set_cons_succ]
      refine wpAnyH_ready (rs := [12]) (by kernel_rfl) (by simp) ?_
      refine Exists.elim (show ∃ z, z = v0_7.setCell ⟨q, 1, none⟩ (.slice (some ⟨gn, 0, none⟩) (k + 1) cap') from ⟨_, rfl⟩) (fun v0_8 hW_ => ?_)
      have nqm : q ≠ mv := HV.out.1.2
      have F1 : QAt (fun b => w.heap.size ≤ b ∧ b ≠ mv) q v0_8 false (k + 1) V (pushP (fun i => i) k k) := by rw [hW_]; exact FF.out.1
      have F2 : Below w.heap.size w v0_8 := by rw [hW_]; exact BA_.out.trans (FF.out.2.below (fun _ h => h.1) BA_.out.size)
      have t0 : v0_8.cell? ⟨mv, 0, none⟩ = some (.int .i64 (V (k * 4))) := by rw [hW_, cell_elseQ nqm]; exact r0
      have t1 : v0_8.cell? ⟨mv, 1, none⟩ = some (.int .i64 (V (k * 4 + 1))) := by rw [hW_, cell_elseQ nqm]; exact r1
      have t2 : v0_8.cell? ⟨mv, 2, none⟩ = some (.int .i64 (V (k * 4 + 2))) := by rw [hW_, cell_elseQ nqm]; exact r2
      have t3 : v0_8.cell? ⟨mv, 3, none⟩ = some (.int .i64 (V (k * 4 + 3))) := by rw [hW_, cell_elseQ nqm]; exact r3
      refine ready_skp v0_8 rfl (by kernel_rfl) ?_ (⟨t0, t1, t2, t3⟩) (fun hHeld => ?_) AllReadyH.nil
      · rw [hW_]; clear hW_; go_simp
      clear hW_
      simp only [Act.put, List.setIfInBounds_toArray, List.set_cons_zero, List.set_cons_succ]
      refine wpAnyH_done (by kernel_rfl) ?_ _
      clear hHeld
      have HF1 : Hid (QAt (fun b => w.heap.size ≤ b) q v0_8 false (k + 1) V (fun i => i)) := (F1.mono (fun b _ hx => hx.1)).congr (fun i hi => by unfold pushP; by_cases e : i = k; exact (if_pos e).trans e.symm; exact if_neg e)
      have HF2 : Hid (Below w.heap.size w v0_8) := F2
      clear F1 F2
      go_wp2
      go_roundw
      case rel => exact ⟨k + 1, by omega, by go_num, HF1, HF2⟩
      case measure => simp [intOf]; omega
end Go.Proofs.Ytcialcejmjggeaa
