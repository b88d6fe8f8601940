/-
What is proved: a burner's run, as the specification takes it.
-/
import Derived.Test.YtpnihekpokfooaaBuP
import Derived.Test.YtpnihekpokfooaaBrT
import Derived.Test.YtpnihekpokfooaaBrP
import Derived.Test.YtpnihekpokfooaaBoM
import Derived.Deep.AppendLies
import Derived.Laws.OwnMore
import Derived.Deep.RegionHeld3
import Derived.Deep.DeepCutAuto
namespace Go.Proofs.Ytpnihekpokfooaa
set_option maxRecDepth 40000
open Go.RowKit
set_option linter.unusedVariables false
set_option linter.unusedSimpArgs false

set_option maxRecDepth 20000 in
set_option maxHeartbeats 4000000 in
theorem specRun_no (s t r : Int) (sl : Option Addr) (n c : Nat) (V : Nat → Bool) (w : World) (hn : (n : Int) ≤ 1048576) (h : rgB (s, t, r) n = false) : Calls Try.prog 18 #[.agg #[.int .i64 s, .int .i64 t, .int .i64 r], .slice sl n c] w fun e w' => RunPost s t r n V w e w' := by
  have HN : Hid (rnN (s, t, r) n = 0 ∧ rnB (s, t, r) V n = (0, 0, 0) ∧ rgB (s, t, r) n = false) := ⟨by simp [rnN, h], by simp [rnB, h], h⟩
  go_enter Try.func18, Try.ntmps18
  go_wp2_with fail
  refine (specOk_any s t r _).mono ?_
  rintro e w1 ⟨rfl, h1⟩
  obtain ⟨hc, hf⟩ := bcell h1
  have q0 := hc (w.heap.size + 1) 0 (by first | omega | (simp; done) | (simp; omega))
  have f0 := hf (w.heap.size + 1) 0 (by first | omega | (simp; done) | (simp; omega))
  have q1 := hc (w.heap.size + 1) 1 (by first | omega | (simp; done) | (simp; omega))
  have f1 := hf (w.heap.size + 1) 1 (by first | omega | (simp; done) | (simp; omega))
  have q2 := hc (w.heap.size + 1) 2 (by first | omega | (simp; done) | (simp; omega))
  have f2 := hf (w.heap.size + 1) 2 (by first | omega | (simp; done) | (simp; omega))
  simp [go_sem] at q0 f0 q1 f1 q2 f2
  have B1 : Below w.heap.size w w1 := Below.trans (by repeat (first | with_reducible exact Below.refl _ _ | with_reducible refine Below.setCell ?_ (by first | omega | (simp; done) | (simp; omega)) _ | with_reducible refine bDrewN ?_ _ | with_reducible refine Below.drew ?_ | with_reducible refine Below.alloc ?_ (by first | omega | (simp; done) | (simp; omega)) _)) (h1.mono (by first | omega | (simp; done) | (simp; omega)))
  have z1 : w.heap.size + 1 < w1.heap.size := by have := h1.size; simp at this; omega
  clear hc hf h1
  cases k0 : okB s t r
  · go_wp2
    exact bodyPost_ret (v := .tuple #[.slice (some ⟨w.heap.size + 1 + 1, 0, none⟩) 0 0, .agg #[.int .i64 0, .int .i64 0, .int .i64 0], .bool false]) (by simp [results, Try.results18, go_sem, q0, q1, q2]) rfl (runPost_of (some ⟨w.heap.size + 1 + 1, 0, none⟩) 0 (by rw [HN.out.1, HN.out.2.1, HN.out.2.2]) (by rw [HN.out.1]; exact fun j hj => by omega) (by repeat (first | with_reducible exact Below.refl _ _ | with_reducible exact B1 | with_reducible refine Below.setCell ?_ (by first | omega | (simp; done) | (simp; omega)) _ | with_reducible refine bDrewN ?_ _ | with_reducible refine Below.drew ?_ | with_reducible refine Below.alloc ?_ (by first | omega | (simp; done) | (simp; omega)) _)))
  · have b1 : (1000 : Int) < (n : Int) := by
      unfold rgB at h; simp only [k0, Bool.true_and] at h
      have := of_decide_eq_false h; omega
    clear h
    go_wp2
    exact bodyPost_ret (v := .tuple #[.slice (some ⟨w.heap.size + 1 + 1, 0, none⟩) 0 0, .agg #[.int .i64 0, .int .i64 0, .int .i64 0], .bool false]) (by simp [results, Try.results18, go_sem, q0, q1, q2]) rfl (runPost_of (some ⟨w.heap.size + 1 + 1, 0, none⟩) 0 (by rw [HN.out.1, HN.out.2.1, HN.out.2.2]) (by rw [HN.out.1]; exact fun j hj => by omega) (by repeat (first | with_reducible exact Below.refl _ _ | with_reducible exact B1 | with_reducible refine Below.setCell ?_ (by first | omega | (simp; done) | (simp; omega)) _ | with_reducible refine bDrewN ?_ _ | with_reducible refine Below.drew ?_ | with_reducible refine Below.alloc ?_ (by first | omega | (simp; done) | (simp; omega)) _)))
theorem ownO_same {w w' : World} {base : Nat} {e : TypeId} {size : Nat} {v : Value} {n : Nat} {xs : List Value} (h : w.ownsRow base e size v n xs) (hs : ∀ g, v.ownBlock = some g → w'.heap[g]? = w.heap[g]?) : w'.ownsRow base e size v n xs := by
  refine ⟨h.1, ?_⟩
  rcases h.2 with q | ⟨g, cap, cur, e1, hb, hg, r⟩
  · exact .inl q
  · exact .inr ⟨g, cap, cur, e1, hb, (hs g (by rw [e1]; rfl)).trans hg, r⟩
theorem ownO_beside {w w' : World} {base p : Nat} {e : TypeId} {size : Nat} {v : Value} {n : Nat} {xs : List Value} (h : w.ownsRow base e size v n xs) (hs : Beside p w w') (hp : p < base) : w'.ownsRow base e size v n xs :=
  ownO_same h fun g hg => hs.2.2.2.2 g (h.lt g hg).2 (by have := (h.lt g hg).1; omega)
theorem info_out : (Try.prog.info? 31).map (fun i => (i.zero, i.size, i.bytes)) = some (some (.agg #[.bool false, .bool false, .bool false]), 3, 3) := by kernel_rfl
theorem newsThree (W : World) (a b c : Value) (t : TypeId) : ∀ j u, [a, b, c][j]? = some u → (W.alloc (.cells #[a, b, c] t)).cell? ((⟨W.heap.size, 0, none⟩ : Addr).add j) = some u := World.news_of_block (cs := #[a, b, c]) (heap_alloc_new W _)
theorem list_out {ops : Array Oper} {rest : List Oper} {o : Oper} {a : Act} {Q : Exit → Act → World → Prop} {W : World} {t : TypeId} {x y z : Bool} (base : Nat) (v : Value) (k : Nat) (xs : List Value) (s q : Operand) (hgd : o.guard = none)
    (ho : o.op = .call { callee := .builtin .append, args := #[s, q], argTypes := #[41, 41] }) (hs : a.eval s = v) (hx : a.eval q = .slice (some ⟨W.heap.size, 0, none⟩) 1 1) (hown : W.ownsRow base 31 3 v k xs) (hk : k ≤ 1000000) (hb : base ≤ W.heap.size)
    (h : ∀ g cap w', w'.ownsRow base 31 3 (.slice (some ⟨g, 0, none⟩) (k + 1) cap) (k + 1) (xs ++ [.bool x, .bool y, .bool z]) → W.grownBy w' v.ownBlock → g < w'.heap.size → wpList Try.prog ops Q rest (a.put o.dst (.slice (some ⟨g, 0, none⟩) (k + 1) cap)) w') :
    wpList Try.prog ops Q (o :: rest) a (W.alloc (.cells #[.bool x, .bool y, .bool z] t)) := by
  obtain ⟨i0, hi, hz0, hz1, hz2⟩ := info_parts info_out
  refine wpList_append_lies _ hgd s q 41 ho base 31 i0 (.agg #[.bool false, .bool false, .bool false]) 3 3 Try.underlying41 hi hz0 hz1 hz2 rfl (by decide) v k xs hs (hown.alloc _) ⟨W.heap.size, 0, none⟩ 1 1 [.bool x, .bool y, .bool z] hx rfl (newsThree _ _ _ _ _) ?_ (by decide) (by unfold maxLen; omega) (by omega) (by simp; omega) _ rfl ?_
  · intro u hu
    simp at hu
    rcases hu with rfl | rfl | rfl <;> rfl
  · intro g cap w' h1 h2 _ h3
    exact h g cap w' h1 (grown_new h2) h3
theorem valB_three (U : Nat → Bool) (k : Nat) : valB U ((k + 1) * 3) = valB U (k * 3) ++ [.bool (U (k * 3)), .bool (U (k * 3 + 1)), .bool (U (k * 3 + 2))] := by
  rw [show (k + 1) * 3 = k * 3 + 1 + 1 + 1 by omega, valB_succ, valB_succ, valB_succ]
  simp
theorem own_OwnB {w : World} {base n : Nat} {v : Value} {U : Nat → Bool} (h : w.ownsRow base 31 3 v n (valB U (n * 3))) : ∃ s cap, v = .slice s n cap ∧ OwnB base w s (n * 3) U := by
  rcases h.2 with ⟨rfl, rfl⟩ | ⟨g, cap, cur, rfl, hb, hg, _, _, _, _⟩
  · exact ⟨none, 0, rfl, fun j hj => by omega⟩
  · refine ⟨some ⟨g, 0, none⟩, cap, rfl, fun j hj => ⟨g, rfl, hb, (Array.getElem?_eq_some_iff.1 hg).1, ?_, h.frozenAt j⟩⟩
    rw [h.cellAt j (by omega)]
    simp [valB, hj]
theorem keep3r {W W' : World} {p : Nat} {vp0 vp1 vp2 : Value} (hp0 : W.cell? ⟨p, 0, none⟩ = some vp0) (hp1 : W.cell? ⟨p, 1, none⟩ = some vp1) (hp2 : W.cell? ⟨p, 2, none⟩ = some vp2) (zp : p < W.heap.size) (hb : Below W.heap.size W W') : W'.cell? ⟨p, 0, none⟩ = some vp0 ∧ W'.cell? ⟨p, 1, none⟩ = some vp1 ∧ W'.cell? ⟨p, 2, none⟩ = some vp2 :=
  ⟨(hb.cell (p := ⟨p, 0, none⟩) zp).trans hp0, (hb.cell (p := ⟨p, 1, none⟩) zp).trans hp1, (hb.cell (p := ⟨p, 2, none⟩) zp).trans hp2⟩
theorem keepBI {W W' : World} {p q j0 j1 j2 j3 j4 j5 : Nat} {a0 a1 a2 b0 b1 b2 b3 b4 b5 : Value} (h0 : W.cell? ⟨p, 0, none⟩ = some a0) (h1 : W.cell? ⟨p, 1, none⟩ = some a1) (h2 : W.cell? ⟨p, 2, none⟩ = some a2) (g0 : W.cell? ⟨q, j0, none⟩ = some b0) (g1 : W.cell? ⟨q, j1, none⟩ = some b1) (g2 : W.cell? ⟨q, j2, none⟩ = some b2) (g3 : W.cell? ⟨q, j3, none⟩ = some b3) (g4 : W.cell? ⟨q, j4, none⟩ = some b4) (g5 : W.cell? ⟨q, j5, none⟩ = some b5) (zp : p < W.heap.size) (zq : q < W.heap.size) (hb : Below W.heap.size W W') : W'.cell? ⟨p, 0, none⟩ = some a0 ∧ W'.cell? ⟨p, 1, none⟩ = some a1 ∧ W'.cell? ⟨p, 2, none⟩ = some a2 ∧ W'.cell? ⟨q, j0, none⟩ = some b0 ∧ W'.cell? ⟨q, j1, none⟩ = some b1 ∧ W'.cell? ⟨q, j2, none⟩ = some b2 ∧ W'.cell? ⟨q, j3, none⟩ = some b3 ∧ W'.cell? ⟨q, j4, none⟩ = some b4 ∧ W'.cell? ⟨q, j5, none⟩ = some b5 :=
  ⟨(hb.cell (p := ⟨p, 0, none⟩) zp).trans h0, (hb.cell (p := ⟨p, 1, none⟩) zp).trans h1, (hb.cell (p := ⟨p, 2, none⟩) zp).trans h2, (hb.cell (p := ⟨q, j0, none⟩) zq).trans g0, (hb.cell (p := ⟨q, j1, none⟩) zq).trans g1, (hb.cell (p := ⟨q, j2, none⟩) zq).trans g2, (hb.cell (p := ⟨q, j3, none⟩) zq).trans g3, (hb.cell (p := ⟨q, j4, none⟩) zq).trans g4, (hb.cell (p := ⟨q, j5, none⟩) zq).trans g5⟩
set_option maxRecDepth 20000 in
set_option maxHeartbeats 40000000 in
theorem specRun_yes (s t r : Int) (sl : Option Addr) (n c : Nat) (V : Nat → Bool) (w : World) (hn : (n : Int) ≤ 1048576) (h : rgB (s, t, r) n = true) (HR : Hid (RowB w sl (n * 6) V)) : Calls Try.prog 18 #[.agg #[.int .i64 s, .int .i64 t, .int .i64 r], .slice sl n c] w fun e w' => RunPost s t r n V w e w' := by
  have hk : okB s t r = true ∧ n ≤ 1000 := by unfold rgB at h; simpa using h
  have HN : Hid (rnN (s, t, r) n = n ∧ rnB (s, t, r) V n = itR (s, t, r) V n ∧ rgB (s, t, r) n = true) := ⟨by simp [rnN, h], by simp [rnB, h], h⟩
  have HK : Hid (∀ k, okB (itR (s, t, r) V k).1 (itR (s, t, r) V k).2.1 (itR (s, t, r) V k).2.2 = true) := itR_ok hk.1
  obtain ⟨h0, h1000⟩ := hk
  have n1000 : (n : Int) ≤ 1000 := by omega
  clear h
  obtain ⟨U, hU⟩ : ∃ U, outU (s, t, r) V = U := ⟨_, rfl⟩
  have HU : Hid (∀ k, U (k * 3) = fanB (itR (s, t, r) V (k + 1)).1 ∧ U (k * 3 + 1) = sparkB (itR (s, t, r) V (k + 1)).1 ∧ U (k * 3 + 2) = valveB (itR (s, t, r) V (k + 1)).1) := fun k => by rw [← hU]; exact ⟨outU0 _ _ _, outU1 _ _ _, outU2 _ _ _⟩
  have HUU : Hid (outU (s, t, r) V = U) := hU
  clear hU
  go_enter Try.func18, Try.ntmps18
  go_wp2_with fail
  refine (specOk_any s t r _).mono ?_
  rintro e w1 ⟨rfl, h1⟩
  rw [h0]
  have A1 : Hid (BurAt w1 w.heap.size (s, t, r)) := by
    show BurAt _ _ _
    refine BurAt.below ?_ h1
    refine ⟨by simp; omega, ⟨?_, ?_, ?_⟩, ?_, ?_, ?_⟩ <;> simp [go_sem]
  have R1 : Hid (BurAt w1 (w.heap.size + 1) (0, 0, 0)) := by
    show BurAt _ _ _
    refine BurAt.below ?_ h1
    refine ⟨by simp, ⟨?_, ?_, ?_⟩, ?_, ?_, ?_⟩ <;> simp [go_sem]
  have O1 : Hid (w1.ownsRow (w.heap.size + 1 + 1) 31 3 (.slice (some ⟨w.heap.size + 1 + 1, 0, none⟩) 0 0) 0 (valB U (0 * 3))) := by
    show World.ownsRow _ _ _ _ _ _ _
    refine ownB_same ?_ h1
    have := World.ownsRow_lit (base := w.heap.size + 1 + 1) (size := 3) (e := 31) ((w.alloc (.cells #[.int .i64 s, .int .i64 t, .int .i64 r] 25)).alloc (.cells #[.int .i64 0, .int .i64 0, .int .i64 0] 25)) #[] 0 (by simp) (by simp [maxLen]) (by simp)
    simpa [valB] using this
  have B1 : Hid (Below w.heap.size w w1) := Below.trans (by repeat (first | with_reducible exact Below.refl _ _ | with_reducible refine Below.setCell ?_ (by first | omega | (simp; done) | (simp; omega)) _ | with_reducible refine bDrewN ?_ _ | with_reducible refine Below.drew ?_ | with_reducible refine Below.alloc ?_ (by first | omega | (simp; done) | (simp; omega)) _)) (h1.mono (by first | omega | (simp; done) | (simp; omega)))
  have z1 : w.heap.size + 1 + 1 ≤ w1.heap.size := by have := h1.size; simp at this; omega
  clear h1 h0
  go_wp2_with fail
  go_loopw [7, 8] (fun v i wr => ∃ k : Nat, k ≤ n ∧ i = .int .i64 k ∧ Hid (BurAt wr w.heap.size (itR (s, t, r) V k)) ∧ Hid (BurAt wr (w.heap.size + 1) (0, 0, 0)) ∧ Hid (wr.ownsRow (w.heap.size + 1 + 1) 31 3 v k (valB U (k * 3))) ∧ Hid (Below w.heap.size w wr) ∧ w.heap.size + 1 + 1 ≤ wr.heap.size) (fun _ i _ => n - (intOf i).toNat)
  case atStart => exact ⟨0, Nat.zero_le _, rfl, A1.out, R1.out, O1.out, B1.out, z1⟩
  case round =>
    obtain ⟨k, hk, rfl, HA, HRS, HO, HB, zz⟩ := hrel
    by_cases h1 : k < n
    case pos =>
      obtain ⟨g, o, rfl, hg0, c0⟩ := HR.out (k * 6) (by omega)
      obtain ⟨g', o', e', hg1, c1⟩ := HR.out (k * 6 + 1) (by omega)
      cases e'
      obtain ⟨g', o', e', hg2, c2⟩ := HR.out (k * 6 + 2) (by omega)
      cases e'
      obtain ⟨g', o', e', hg3, c3⟩ := HR.out (k * 6 + 3) (by omega)
      cases e'
      obtain ⟨g', o', e', hg4, c4⟩ := HR.out (k * 6 + 4) (by omega)
      cases e'
      obtain ⟨g', o', e', hg5, c5⟩ := HR.out (k * 6 + 5) (by omega)
      cases e'
      have d0 : wr.cell? ⟨g, o + k * 6, none⟩ = some (.bool (V (k * 6))) := (HB.out.cell (p := ⟨g, o + (k * 6), none⟩) hg0).trans c0
      have d1 : wr.cell? ⟨g, o + k * 6 + 1, none⟩ = some (.bool (V (k * 6 + 1))) := (HB.out.cell (p := ⟨g, o + (k * 6 + 1), none⟩) hg1).trans c1
      have d2 : wr.cell? ⟨g, o + k * 6 + 2, none⟩ = some (.bool (V (k * 6 + 2))) := (HB.out.cell (p := ⟨g, o + (k * 6 + 2), none⟩) hg2).trans c2
      have d3 : wr.cell? ⟨g, o + k * 6 + 3, none⟩ = some (.bool (V (k * 6 + 3))) := (HB.out.cell (p := ⟨g, o + (k * 6 + 3), none⟩) hg3).trans c3
      have d4 : wr.cell? ⟨g, o + k * 6 + 4, none⟩ = some (.bool (V (k * 6 + 4))) := (HB.out.cell (p := ⟨g, o + (k * 6 + 4), none⟩) hg4).trans c4
      have d5 : wr.cell? ⟨g, o + k * 6 + 5, none⟩ = some (.bool (V (k * 6 + 5))) := (HB.out.cell (p := ⟨g, o + (k * 6 + 5), none⟩) hg5).trans c5
      have zg : g < wr.heap.size := Nat.lt_of_lt_of_le hg0 HB.out.size
      have k1 : (k : Int) < (n : Int) := by omega
      have HX : Hid (∀ w, Calls Try.prog 12 #[.agg #[.int .i64 (itR (s, t, r) V k).1, .int .i64 (itR (s, t, r) V k).2.1, .int .i64 (itR (s, t, r) V k).2.2], .agg #[.bool (V (k * 6)), .bool (V (k * 6 + 1)), .bool (V (k * 6 + 2)), .bool (V (k * 6 + 3)), .bool (V (k * 6 + 4)), .bool (V (k * 6 + 5))]] w fun e w' => e = .returned (.tuple #[.agg #[.int .i64 (itR (s, t, r) V (k + 1)).1, .int .i64 (itR (s, t, r) V (k + 1)).2.1, .int .i64 (itR (s, t, r) V (k + 1)).2.2], .agg #[.bool (U (k * 3)), .bool (U (k * 3 + 1)), .bool (U (k * 3 + 2))], .bool true]) ∧ Below w.heap.size w w') := fun w => by
        have := specStep_any (itR (s, t, r) V k).1 (itR (s, t, r) V k).2.1 (itR (s, t, r) V k).2.2 (V (k * 6)) (V (k * 6 + 1)) (V (k * 6 + 2)) (V (k * 6 + 3)) (V (k * 6 + 4)) (V (k * 6 + 5)) w
        unfold stN stF stS stV at this
        rw [HK.out k] at this
        rw [(HU.out k).1, (HU.out k).2.1, (HU.out k).2.2]
        exact this
      obtain ⟨u0, hu0⟩ : ∃ u, V (k * 6) = u := ⟨_, rfl⟩
      rw [hu0] at d0 HX
      obtain ⟨u1, hu1⟩ : ∃ u, V (k * 6 + 1) = u := ⟨_, rfl⟩
      rw [hu1] at d1 HX
      obtain ⟨u2, hu2⟩ : ∃ u, V (k * 6 + 2) = u := ⟨_, rfl⟩
      rw [hu2] at d2 HX
      obtain ⟨u3, hu3⟩ : ∃ u, V (k * 6 + 3) = u := ⟨_, rfl⟩
      rw [hu3] at d3 HX
      obtain ⟨u4, hu4⟩ : ∃ u, V (k * 6 + 4) = u := ⟨_, rfl⟩
      rw [hu4] at d4 HX
      obtain ⟨u5, hu5⟩ : ∃ u, V (k * 6 + 5) = u := ⟨_, rfl⟩
      rw [hu5] at d5 HX
      clear hu0 c0 hg0 hu1 c1 hg1 hu2 c2 hg2 hu3 c3 hg3 hu4 c4 hg4 hu5 c5 hg5
      obtain ⟨⟨x0, x1, x2⟩, hx⟩ : ∃ x, itR (s, t, r) V k = x := ⟨_, rfl⟩
      obtain ⟨⟨y0, y1, y2⟩, hy⟩ : ∃ y, itR (s, t, r) V (k + 1) = y := ⟨_, rfl⟩
      rw [hx] at HX HA
      rw [hy] at HX
      have HY : Hid (itR (s, t, r) V (k + 1) = (y0, y1, y2)) := hy
      clear hx hy
      have HV : Hid (valB U ((k + 1) * 3) = valB U (k * 3) ++ [.bool (U (k * 3)), .bool (U (k * 3 + 1)), .bool (U (k * 3 + 2))]) := valB_three U k
      obtain ⟨o0, ho0⟩ : ∃ o, U (k * 3) = o := ⟨_, rfl⟩
      obtain ⟨o1, ho1⟩ : ∃ o, U (k * 3 + 1) = o := ⟨_, rfl⟩
      obtain ⟨o2, ho2⟩ : ∃ o, U (k * 3 + 2) = o := ⟨_, rfl⟩
      rw [ho0, ho1, ho2] at HX HV
      clear ho0 ho1 ho2
      obtain ⟨zb, ⟨a0, a1, a2⟩, -⟩ := HA.out
      go_upto_region 7 with fail
      go_cut [9, 10, 11] (fun a b c wx => ∃ p q : Nat, a = .pointer (some ⟨p, 0, none⟩) ∧ b = .pointer (some ⟨q, 0, none⟩) ∧ c = .bool true ∧ wr.heap.size ≤ p ∧ wr.heap.size ≤ q ∧ p < wx.heap.size ∧ q < wx.heap.size ∧ wx.cell? ⟨p, 0, none⟩ = some (.int .i64 y0) ∧ wx.cell? ⟨p, 1, none⟩ = some (.int .i64 y1) ∧ wx.cell? ⟨p, 2, none⟩ = some (.int .i64 y2) ∧ wx.cell? ⟨q, 0, none⟩ = some (.bool o0) ∧ wx.cell? ⟨q, 1, none⟩ = some (.bool o1) ∧ wx.cell? ⟨q, 2, none⟩ = some (.bool o2) ∧ Below wr.heap.size wr wx)
      case first =>
        go_region_held3 (fun w' => w'.cell? ⟨w.heap.size, 0, none⟩ = some (.int .i64 x0) ∧ w'.cell? ⟨w.heap.size, 1, none⟩ = some (.int .i64 x1) ∧ w'.cell? ⟨w.heap.size, 2, none⟩ = some (.int .i64 x2) ∧ w'.cell? ⟨g, o + k * 6, none⟩ = some (.bool u0) ∧ w'.cell? ⟨g, o + k * 6 + 1, none⟩ = some (.bool u1) ∧ w'.cell? ⟨g, o + k * 6 + 2, none⟩ = some (.bool u2) ∧ w'.cell? ⟨g, o + k * 6 + 3, none⟩ = some (.bool u3) ∧ w'.cell? ⟨g, o + k * 6 + 4, none⟩ = some (.bool u4) ∧ w'.cell? ⟨g, o + k * 6 + 5, none⟩ = some (.bool u5)) (first | (refine keepBI a0 a1 a2 d0 d1 d2 d3 d4 d5 zb zg ?_; exact (by repeat (first | with_reducible exact Below.refl _ _ | with_reducible exact B3 | with_reducible refine Below.setCell ?_ (by first | omega | (simp; done) | (simp; omega)) _ | with_reducible refine bDrewN ?_ _ | with_reducible refine Below.drew ?_ | with_reducible refine Below.alloc ?_ (by first | omega | (simp; done) | (simp; omega)) _)))) (first
          | (go_at_call 12; refine (HX.out _).mono ?_; rintro e w3 ⟨rfl, h3⟩; have B3 : Below wr.heap.size wr w3 := Below.trans (by repeat (first | with_reducible exact Below.refl _ _ | with_reducible refine Below.setCell ?_ (by first | omega | (simp; done) | (simp; omega)) _ | with_reducible refine bDrewN ?_ _ | with_reducible refine Below.drew ?_ | with_reducible refine Below.alloc ?_ (by first | omega | (simp; done) | (simp; omega)) _)) (h3.mono (by first | omega | (simp; done) | (simp; omega))); have s3 := B3.size; have s3b := h3.size; (try simp at s3b); obtain ⟨hc3, hf3⟩ := bcell h3; (try (have sa0 : wr.heap.size < w3.heap.size := (by omega); have ca0_0 := hc3 (wr.heap.size) 0 (by first | omega | (simp; done) | (simp; omega)); have fa0_0 := hf3 (wr.heap.size) 0 (by first | omega | (simp; done) | (simp; omega)); have ca0_1 := hc3 (wr.heap.size) 1 (by first | omega | (simp; done) | (simp; omega)); have fa0_1 := hf3 (wr.heap.size) 1 (by first | omega | (simp; done) | (simp; omega)); have ca0_2 := hc3 (wr.heap.size) 2 (by first | omega | (simp; done) | (simp; omega)); have fa0_2 := hf3 (wr.heap.size) 2 (by first | omega | (simp; done) | (simp; omega)); simp (maxDischargeDepth := 12) [go_sem] at ca0_0 fa0_0 ca0_1 fa0_1 ca0_2 fa0_2)); (try (have sa1 : wr.heap.size + 1 < w3.heap.size := (by omega); have ca1_0 := hc3 (wr.heap.size + 1) 0 (by first | omega | (simp; done) | (simp; omega)); have fa1_0 := hf3 (wr.heap.size + 1) 0 (by first | omega | (simp; done) | (simp; omega)); have ca1_1 := hc3 (wr.heap.size + 1) 1 (by first | omega | (simp; done) | (simp; omega)); have fa1_1 := hf3 (wr.heap.size + 1) 1 (by first | omega | (simp; done) | (simp; omega)); have ca1_2 := hc3 (wr.heap.size + 1) 2 (by first | omega | (simp; done) | (simp; omega)); have fa1_2 := hf3 (wr.heap.size + 1) 2 (by first | omega | (simp; done) | (simp; omega)); simp (maxDischargeDepth := 12) [go_sem] at ca1_0 fa1_0 ca1_1 fa1_1 ca1_2 fa1_2)); clear hc3 hf3))
        all_goals
          go_wp2_with fail
          go_meet
          case rel =>
            refine ⟨_, _, rfl, rfl, rfl, ?_, ?_, ?_, ?_, ?_, ?_, ?_, ?_, ?_, ?_, (by repeat (first | with_reducible exact Below.refl _ _ | with_reducible exact B3 | with_reducible refine Below.setCell ?_ (by first | omega | (simp; done) | (simp; omega)) _ | with_reducible refine bDrewN ?_ _ | with_reducible refine Below.drew ?_ | with_reducible refine Below.alloc ?_ (by first | omega | (simp; done) | (simp; omega)) _))⟩
            all_goals first | omega | (simp [go_sem, *]; done) | (simp [go_sem, *, Nat.add_assoc]; done) | (simp; omega) | (simp [*]; omega)
      case rest =>
        obtain ⟨p, q, rfl, rfl, rfl, lp, lq, zp, zq, p0, p1, p2, q0, q1, q2, h2⟩ := hcut
        have A2 : Hid (BurAt wc w.heap.size (x0, x1, x2)) := HA.out.below h2
        have R2 : Hid (BurAt wc (w.heap.size + 1) (0, 0, 0)) := HRS.out.below h2
        have O2 : Hid (wc.ownsRow (w.heap.size + 1 + 1) 31 3 u7 k (valB U (k * 3))) := ownB_same HO.out h2
        have B2 : Hid (Below w.heap.size w wc) := HB.out.trans (h2.mono HB.out.size)
        have z2 := h2.size
        clear h2 a0 a1 a2 zb d0 d1 d2 d3 d4 d5
        obtain ⟨zb, ⟨a0, a1, a2⟩, f0, f1, f2⟩ := A2.out
        have nq : w.heap.size ≠ q := by omega
        have np : w.heap.size ≠ p := by omega
        go_upto_region 9 with fail
        obtain ⟨w6, hw6⟩ : ∃ w6, w6 = (((wc.setCell ⟨w.heap.size, 0, none⟩ (.int .i64 y0)).setCell ⟨w.heap.size, 1, none⟩ (.int .i64 y1)).setCell ⟨w.heap.size, 2, none⟩ (.int .i64 y2)) := ⟨_, rfl⟩
        rw [← hw6]
        have bs : Beside w.heap.size wc w6 := hw6 ▸ beside3 w.heap.size wc 0 1 2 _ _ _
        have A6 : Hid (BurAt w6 w.heap.size (y0, y1, y2)) := hw6 ▸ A2.out.put
        have R6 : Hid (BurAt w6 (w.heap.size + 1) (0, 0, 0)) := R2.out.beside bs (by omega)
        have O6 : Hid (w6.ownsRow (w.heap.size + 1 + 1) 31 3 u7 k (valB U (k * 3))) := ownO_beside O2.out bs (by omega)
        have B6 : Hid (Below w.heap.size w w6) := B2.out.trans (bs.below (Nat.le_refl _) B2.out.size)
        have q0' : w6.cell? ⟨q, 0, none⟩ = some (.bool o0) := (bs.cell (p := ⟨q, 0, none⟩) zq (fun e => nq e.symm)).trans q0
        have q1' : w6.cell? ⟨q, 1, none⟩ = some (.bool o1) := (bs.cell (p := ⟨q, 1, none⟩) zq (fun e => nq e.symm)).trans q1
        have q2' : w6.cell? ⟨q, 2, none⟩ = some (.bool o2) := (bs.cell (p := ⟨q, 2, none⟩) zq (fun e => nq e.symm)).trans q2
        have z6 : w.heap.size + 1 + 1 ≤ w6.heap.size := Nat.le_trans (by omega) bs.2.2.2.1
        clear hw6 bs a0 a1 a2 f0 f1 f2 zb p0 p1 p2 q0 q1 q2 A2 R2 O2 B2
        go_wp2_with (at_builtin; refine list_out (w.heap.size + 1 + 1) u7 k (valB U (k * 3)) (.tmp 40) (.tmp 42) (by rfl) (by rfl) (by rfl) (by rfl) O6.out (by omega) (by omega) ?_; intro g' cap' w7 hown7 hgrow7 hlt7)
        have G7 : Below (w.heap.size + 1 + 1) w6 w7 := grown_below hgrow7 z6 (own_block O6.out)
        have bs7 : ∀ b, b < w.heap.size + 1 + 1 → ∀ o, w7.cell? ⟨b, o, none⟩ = w6.cell? ⟨b, o, none⟩ ∧ w7.frozen? ⟨b, o, none⟩ = w6.frozen? ⟨b, o, none⟩ := fun b hb o => ⟨G7.cell (p := ⟨b, o, none⟩) hb, G7.frozen (p := ⟨b, o, none⟩) hb⟩
        have keepB : ∀ b p, b < w.heap.size + 1 + 1 → BurAt w6 b p → BurAt w7 b p := fun b p hb ⟨hz, ⟨h0, h1, h2⟩, f0, f1, f2⟩ => ⟨Nat.lt_of_lt_of_le hz G7.size, ⟨(bs7 b hb 0).1.trans h0, (bs7 b hb 1).1.trans h1, (bs7 b hb 2).1.trans h2⟩, (bs7 b hb 0).2.trans f0, (bs7 b hb 1).2.trans f1, (bs7 b hb 2).2.trans f2⟩
        have A7 : Hid (BurAt w7 w.heap.size (y0, y1, y2)) := keepB _ _ (by omega) A6.out
        have R7 : Hid (BurAt w7 (w.heap.size + 1) (0, 0, 0)) := keepB _ _ (by omega) R6.out
        have B7 : Hid (Below w.heap.size w w7) := B6.out.trans (G7.mono (by omega))
        have O7 : Hid (w7.ownsRow (w.heap.size + 1 + 1) 31 3 (.slice (some ⟨g', 0, none⟩) (k + 1) cap') (k + 1) (valB U ((k + 1) * 3))) := by
          show World.ownsRow _ _ _ _ _ _ _
          rw [HV.out]; exact hown7
        have z7 : w.heap.size + 1 + 1 ≤ w7.heap.size := Nat.le_trans z6 G7.size
        clear bs7 keepB hown7 hgrow7 G7
        go_wp2
        go_roundw
        case rel => exact ⟨k + 1, by omega, by go_num, (by rw [HY.out]; exact A7.out), R7.out, O7.out, B7.out, z7⟩
        case measure => simp [intOf]; omega
    case neg =>
      obtain rfl : k = n := by omega
      obtain ⟨⟨x0, x1, x2⟩, hx⟩ : ∃ x, itR (s, t, r) V k = x := ⟨_, rfl⟩
      rw [hx] at HA HN
      clear hx
      obtain ⟨zb, ⟨a0, a1, a2⟩, -⟩ := HA.out
      obtain ⟨zr, ⟨r0, r1, r2⟩, f0, f1, f2⟩ := HRS.out
      obtain ⟨sv, cv, hv, OB⟩ := own_OwnB HO.out
      have HOB : Hid (OwnB (w.heap.size + 1 + 1) wr sv (k * 3) U) := OB
      clear OB HO
      subst hv
      go_upto_region 10 with fail
      go_region
      all_goals
        go_wp2
        exact bodyPost_ret (v := .tuple #[.slice sv k cv, .agg #[.int .i64 x0, .int .i64 x1, .int .i64 x2], .bool true]) (by simp [results, Try.results18, go_sem, *]) rfl (runPost_of sv cv (by rw [HN.out.1, HN.out.2.1, HN.out.2.2]) (by rw [HN.out.1, HUU.out]; first | exact ((HOB.out.beside (beside3 (w.heap.size + 1) _ 0 1 2 _ _ _) (by omega)).below (by repeat (first | with_reducible exact Below.refl _ _ | with_reducible refine Below.setCell ?_ (by first | omega | (simp; done) | (simp; omega)) _ | with_reducible refine bDrewN ?_ _ | with_reducible refine Below.drew ?_ | with_reducible refine Below.alloc ?_ (by first | omega | (simp; done) | (simp; omega)) _))).mono (by omega) | exact ((HOB.out.below (by repeat (first | with_reducible exact Below.refl _ _ | with_reducible refine Below.setCell ?_ (by first | omega | (simp; done) | (simp; omega)) _ | with_reducible refine bDrewN ?_ _ | with_reducible refine Below.drew ?_ | with_reducible refine Below.alloc ?_ (by first | omega | (simp; done) | (simp; omega)) _))).beside (beside3 (w.heap.size + 1) _ 0 1 2 _ _ _) (by omega)).mono (by omega)) (by have B5 := HB.out; exact (by repeat (first | with_reducible exact Below.refl _ _ | with_reducible exact B5 | with_reducible refine Below.setCell ?_ (by first | omega | (simp; done) | (simp; omega)) _ | with_reducible refine bDrewN ?_ _ | with_reducible refine Below.drew ?_ | with_reducible refine Below.alloc ?_ (by first | omega | (simp; done) | (simp; omega)) _))))
theorem specRun_any (s t r : Int) (sl : Option Addr) (n c : Nat) (V : Nat → Bool) (w : World) (hn : (n : Int) ≤ 1048576) (HR : Hid (RowB w sl (n * 6) V)) : Calls Try.prog 18 #[.agg #[.int .i64 s, .int .i64 t, .int .i64 r], .slice sl n c] w fun e w' => RunPost s t r n V w e w' := by
  cases h : rgB (s, t, r) n
  · exact specRun_no s t r sl n c V w hn h
  · exact specRun_yes s t r sl n c V w hn h HR
end Go.Proofs.Ytpnihekpokfooaa
