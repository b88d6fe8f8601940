/-
What is proved: who is heard and who comes, as the program tells it.
-/
import Derived.Test.YtlbbdifmjdpfiaaBsPz
import Derived.Test.YtlbbdifmjdpfiaaBsWz
import Derived.Test.YtlbbdifmjdpfiaaZdB
import Derived.Test.YtlbbdifmjdpfiaaOwnLz
namespace Go.Proofs.Ytlbbdifmjdpfiaa
set_option maxRecDepth 40000
open Go.ChangeShapes Go.WideShapes Go.ChangeAt Go.RowKit
set_option linter.unusedVariables false
set_option linter.unusedSimpArgs false

theorem turn_grown {S : Nat → Prop} {W w2 : World} {v : Value} (hg : W.grownBy w2 v.ownBlock) (hr : ∀ r, v.ownBlock = some r → S r) : Turn S W w2 := ⟨hg.os, hg.tape, hg.output, hg.size, fun k hk hn => hg.block k hk (fun e => hn (hr k e.symm))⟩
theorem own_lt2 {w : World} {base : Nat} {e : TypeId} {size : Nat} {v : Value} {n : Nat} {xs : List Value} (h : w.ownsRow base e size v n xs) : ∀ r, v.ownBlock = some r → r < w.heap.size := fun r hr => by
  rcases h.2 with ⟨q, _⟩ | ⟨g', cap, cur, e1, _, hg', _⟩
  · rw [q] at hr; simp [Value.ownBlock] at hr
  · rw [e1] at hr
    have : g' = r := by simpa [Value.ownBlock] using hr
    subst this
    rcases Nat.lt_or_ge g' w.heap.size with z | z
    · exact z
    · rw [Array.getElem?_eq_none z] at hg'; cases hg'
theorem own_below {w w' : World} {base : Nat} {e : TypeId} {size : Nat} {v : Value} {n : Nat} {xs : List Value} (h : w.ownsRow base e size v n xs) (hb : Below w.heap.size w w') : w'.ownsRow base e size v n xs := own_same h fun g hg => hb.block g (own_lt2 h g hg)
theorem own_beside {w w' : World} {base r : Nat} {e : TypeId} {size : Nat} {v : Value} {n : Nat} {xs : List Value} (h : w.ownsRow base e size v n xs) (hb : Beside r w w') (hr : r < base) : w'.ownsRow base e size v n xs := own_same h fun g hg => hb.2.2.2.2 g (own_lt2 h g hg) (by have := own_block h g hg; omega)
theorem keepLi {W W' : World} {p r : Nat} {v0 v1 u0 u1 u2 u3 u4 : Value} (h0 : W.cell? ⟨p, 0, none⟩ = some v0) (h1 : W.cell? ⟨p, 1, none⟩ = some v1) (g0 : W.cell? ⟨r, 0, none⟩ = some u0) (g1 : W.cell? ⟨r, 1, none⟩ = some u1) (g2 : W.cell? ⟨r, 2, none⟩ = some u2) (g3 : W.cell? ⟨r, 3, none⟩ = some u3) (g4 : W.cell? ⟨r, 4, none⟩ = some u4) (zp : p < W.heap.size) (zr : r < W.heap.size) (hb : Below W.heap.size W W') : W'.cell? ⟨p, 0, none⟩ = some v0 ∧ W'.cell? ⟨p, 1, none⟩ = some v1 ∧ W'.cell? ⟨r, 0, none⟩ = some u0 ∧ W'.cell? ⟨r, 1, none⟩ = some u1 ∧ W'.cell? ⟨r, 2, none⟩ = some u2 ∧ W'.cell? ⟨r, 3, none⟩ = some u3 ∧ W'.cell? ⟨r, 4, none⟩ = some u4 :=
  ⟨(hb.cell (p := ⟨p, 0, none⟩) zp).trans h0, (hb.cell (p := ⟨p, 1, none⟩) zp).trans h1, (hb.cell (p := ⟨r, 0, none⟩) zr).trans g0, (hb.cell (p := ⟨r, 1, none⟩) zr).trans g1, (hb.cell (p := ⟨r, 2, none⟩) zr).trans g2, (hb.cell (p := ⟨r, 3, none⟩) zr).trans g3, (hb.cell (p := ⟨r, 4, none⟩) zr).trans g4⟩
theorem keepLi2 {W W' : World} {p r b : Nat} {v0 v1 u0 u1 u2 u3 u4 : Value} (h0 : W.cell? ⟨p, 0, none⟩ = some v0) (h1 : W.cell? ⟨p, 1, none⟩ = some v1) (g0 : W.cell? ⟨r, 0, none⟩ = some u0) (g1 : W.cell? ⟨r, 1, none⟩ = some u1) (g2 : W.cell? ⟨r, 2, none⟩ = some u2) (g3 : W.cell? ⟨r, 3, none⟩ = some u3) (g4 : W.cell? ⟨r, 4, none⟩ = some u4) (zp : p < W.heap.size) (zr : r < W.heap.size) (pb : p ≠ b) (rb : r ≠ b) (hb : Beside b W W') : W'.cell? ⟨p, 0, none⟩ = some v0 ∧ W'.cell? ⟨p, 1, none⟩ = some v1 ∧ W'.cell? ⟨r, 0, none⟩ = some u0 ∧ W'.cell? ⟨r, 1, none⟩ = some u1 ∧ W'.cell? ⟨r, 2, none⟩ = some u2 ∧ W'.cell? ⟨r, 3, none⟩ = some u3 ∧ W'.cell? ⟨r, 4, none⟩ = some u4 :=
  ⟨(hb.cell (p := ⟨p, 0, none⟩) zp pb).trans h0, (hb.cell (p := ⟨p, 1, none⟩) zp pb).trans h1, (hb.cell (p := ⟨r, 0, none⟩) zr rb).trans g0, (hb.cell (p := ⟨r, 1, none⟩) zr rb).trans g1, (hb.cell (p := ⟨r, 2, none⟩) zr rb).trans g2, (hb.cell (p := ⟨r, 3, none⟩) zr rb).trans g3, (hb.cell (p := ⟨r, 4, none⟩) zr rb).trans g4⟩
/-- What is behind a listening: the board, what was told, and nothing else turned. -/
def LiPost (w : World) (b n : Nat) (V : Nat → Int × Int × Int × Bool × Int) (l : List Int) (e : Ending) (w' : World) : Prop := ∃ v, e = .returned v ∧ AlM b w' n V ∧ w'.ownsRow (w.heap.size + 1) 2 1 v l.length (cellsOf l) ∧ Turn (fun q => q = b ∨ w.heap.size ≤ q) w w'
set_option maxRecDepth 20000 in
set_option maxHeartbeats 16000000 in
theorem listen_any (p b : Nat) (x : Int) (n : Nat) (V : Nat → Int × Int × Int × Bool × Int) (mo : Int) (st : Option Addr) (nt ct : Nat) (Th : Nat → Bool) (ss : Option Addr) (ns cs : Nat) (sh : Option Addr) (nh ch : Nat) (w : World) (q0 : w.cell? ⟨p, 0, none⟩ = some (.int .i64 x)) (q1 : w.cell? ⟨p, 1, none⟩ = some (.slice (some ⟨b, 0, none⟩) n n)) (zp : p < w.heap.size) (pb : p ≠ b) (hn : (n : Int) ≤ 60) (HM : Hid (AlM b w n V)) (zb : b < w.heap.size) (m0 : 0 ≤ mo) (m1 : mo ≤ 7) (hnt : nt = n) (ht : tidy n V) (HR : Hid (RowB w st n Th)) (HF : Hid (0 < n → ∀ b' o', st = some ⟨b', o', none⟩ → b' ≠ b)) :
    Calls Try.prog 51 #[.pointer (some ⟨p, 0, none⟩), .agg #[.int .i64 mo, .slice st nt ct, .slice ss ns cs, .slice sh nh ch]] w fun e w' => LiPost w b n (liV V n Th mo x n) (liL V n Th mo x n) e w' := by
  subst hnt
  have HT : Hid (tidy nt V) := ht
  clear ht
  go_enter Try.func51, Try.ntmps51
  go_upto_region 2 with fail
  obtain ⟨wS, hwS⟩ : ∃ wS, wS = w.alloc (.cells #[.int .i64 mo, .slice st nt ct, .slice ss ns cs, .slice sh nh ch] 39) := ⟨_, rfl⟩
  rw [← hwS]
  have hbS : Below w.heap.size w wS := by rw [hwS]; exact below0 _ _
  have k0 : wS.cell? ⟨w.heap.size, 0, none⟩ = some (.int .i64 mo) := by rw [hwS]; simp [go_sem]
  have k1 : wS.cell? ⟨w.heap.size, 1, none⟩ = some (.slice st nt ct) := by rw [hwS]; simp [go_sem]
  have zS : w.heap.size < wS.heap.size := by rw [hwS]; simp
  replace q0 := (hbS.cell (p := ⟨p, 0, none⟩) zp).trans q0
  replace q1 := (hbS.cell (p := ⟨p, 1, none⟩) zp).trans q1
  have HR2 : Hid (RowB wS st nt Th) := HR.out.below hbS
  have HM2 : Hid (AlM b wS nt V) := HM.out.below hbS
  have HRL : Hid (∀ j, j < nt → ∃ b' o', st = some ⟨b', o', none⟩ ∧ b' < w.heap.size) := fun j hj => by
    obtain ⟨b', o', e, hl, _⟩ := HR.out j hj
    exact ⟨b', o', e, hl⟩
  have HBS : Hid (Below w.heap.size w wS) := hbS
  clear hwS hbS HR HM
  go_wp2_with fail
  go_loopw [5, 13] (fun v i wr => ∃ k : Nat, k ≤ nt ∧ i = .int .i64 k ∧ AlM b wr nt (liV V nt Th mo x k) ∧ wr.ownsRow (w.heap.size + 1) 2 1 v (liL V nt Th mo x k).length (cellsOf (liL V nt Th mo x k)) ∧ Turn (fun q => q = b ∨ w.heap.size + 1 ≤ q) wS wr) (fun _ i _ => nt - (intOf i).toNat)
  case atStart => exact ⟨0, Nat.zero_le _, rfl, HM2.out, by simpa [cellsOf, liL] using World.ownsRow_nil wS (w.heap.size + 1) 2 1, Turn.refl _ _⟩
  case round =>
    obtain ⟨k, hk, rfl, hA, hown, hTu⟩ := hrel
    clear HM2
    have HA : Hid (AlM b wr nt (liV V nt Th mo x k)) := hA
    have HO : Hid (wr.ownsRow (w.heap.size + 1) 2 1 u5 (liL V nt Th mo x k).length (cellsOf (liL V nt Th mo x k))) := hown
    have HTu : Hid (Turn (fun q => q = b ∨ w.heap.size + 1 ≤ q) wS wr) := hTu
    have hl := liL_le V nt Th mo x k
    have zs := hTu.size
    by_cases h1 : k < nt
    · have hA2 := hA
      obtain ⟨zbr, hf, hc⟩ := hA2
      obtain ⟨e0, e1, e2, e3, e4⟩ := hc k h1
      obtain ⟨⟨G, O, T, F, U⟩, hW⟩ : ∃ z, liV V nt Th mo x k k = z := ⟨_, rfl⟩
      rw [hW] at e0 e1 e2 e3 e4
      simp only at e0 e1 e2 e3 e4
      have HW : Hid (liV V nt Th mo x k k = (G, O, T, F, U)) := hW
      have htk := tidy_li (Th := Th) (mo := mo) (x := x) HT.out k (by omega)
      have HTk : Hid (tidy nt (liV V nt Th mo x k)) := htk
      obtain ⟨⟨o0, o1⟩, -, T0, T3⟩ := htk k h1
      rw [hW] at o0 o1 T0 T3
      simp only at o0 o1 T0 T3
      obtain ⟨g, o, rfl, hg, t0⟩ := HR2.out k h1
      have nb := HF.out (by omega) g o rfl
      obtain ⟨g2, o2, eg, hgw⟩ := HRL.out k h1
      cases eg
      have tc : wr.cell? ⟨g, o + k, none⟩ = some (.bool (Th k)) := (hTu.cell (p := ⟨g, o + k, none⟩) hg (show ¬ (g = b ∨ w.heap.size + 1 ≤ g) by omega)).trans t0
      have r0 := (hTu.cell (p := ⟨p, 0, none⟩) (show p < wS.heap.size by omega) (show ¬ (p = b ∨ w.heap.size + 1 ≤ p) by omega)).trans q0
      have r1 := (hTu.cell (p := ⟨p, 1, none⟩) (show p < wS.heap.size by omega) (show ¬ (p = b ∨ w.heap.size + 1 ≤ p) by omega)).trans q1
      have s0 := (hTu.cell (p := ⟨w.heap.size, 0, none⟩) zS (show ¬ (w.heap.size = b ∨ w.heap.size + 1 ≤ w.heap.size) by omega)).trans k0
      have s1 := (hTu.cell (p := ⟨w.heap.size, 1, none⟩) zS (show ¬ (w.heap.size = b ∨ w.heap.size + 1 ≤ w.heap.size) by omega)).trans k1
      have kn : (k : Int) < (nt : Int) := by omega
      have zgr : g < wr.heap.size := by omega
      obtain ⟨hea, hh⟩ : ∃ hea, heaB (G, O, T, F, U) (Th k) mo x = hea := ⟨_, rfl⟩
      have HH : Hid (heaB (G, O, T, F, U) (Th k) mo x = hea) := hh
      obtain ⟨thk, hthk⟩ : ∃ thk, Th k = thk := ⟨_, rfl⟩
      rw [hthk] at tc hh
      have HHc : Hid (∀ w, Calls Try.prog 79 #[.agg #[.int .i64 G, .int .i64 O, .int .i64 T, .bool F, .int .i64 U], .bool thk, .int .i64 mo, .int .i64 x] w fun e w' => e = .returned (.bool hea) ∧ Below w.heap.size w w') := fun w => by
        have := heard_any G O T U F thk mo x w m0 m1 o0 o1
        rw [hh] at this
        exact this
      clear hA hown hTu hc t0 hg hW htk hh hthk
      go_upto_region 5 with fail
      obtain ⟨wa, hwa⟩ : ∃ wa, wa = wr.alloc (.cells #[.int .i64 G, .int .i64 O, .int .i64 T, .bool F, .int .i64 U] 43) := ⟨_, rfl⟩
      obtain ⟨r, hr⟩ : ∃ r, wr.heap.size = r := ⟨_, rfl⟩
      rw [← hwa, hr]
      have hb : Below wr.heap.size wr wa := by rw [hwa]; exact below0 _ _
      have zr : r < wa.heap.size := by rw [hwa, ← hr]; simp
      have d0 : wa.cell? ⟨r, 0, none⟩ = some (.int .i64 G) := by rw [hwa, ← hr]; simp [go_sem]
      have d1 : wa.cell? ⟨r, 1, none⟩ = some (.int .i64 O) := by rw [hwa, ← hr]; simp [go_sem]
      have d2 : wa.cell? ⟨r, 2, none⟩ = some (.int .i64 T) := by rw [hwa, ← hr]; simp [go_sem]
      have d3 : wa.cell? ⟨r, 3, none⟩ = some (.bool F) := by rw [hwa, ← hr]; simp [go_sem]
      have d4 : wa.cell? ⟨r, 4, none⟩ = some (.int .i64 U) := by rw [hwa, ← hr]; simp [go_sem]
      replace r0 := (hb.cell (p := ⟨p, 0, none⟩) (show p < wr.heap.size by omega)).trans r0
      replace r1 := (hb.cell (p := ⟨p, 1, none⟩) (show p < wr.heap.size by omega)).trans r1
      replace s0 := (hb.cell (p := ⟨w.heap.size, 0, none⟩) (show w.heap.size < wr.heap.size by omega)).trans s0
      replace s1 := (hb.cell (p := ⟨w.heap.size, 1, none⟩) (show w.heap.size < wr.heap.size by omega)).trans s1
      replace tc := (hb.cell (p := ⟨g, o + k, none⟩) zgr).trans tc
      have zpa : p < wa.heap.size := by omega
      have zga : g < wa.heap.size := by omega
      have zwa : w.heap.size < wa.heap.size := by omega
      have rb : r ≠ b := by omega
      have HBa : Hid (Below wr.heap.size wr wa) := hb
      have zrw : wr.heap.size ≤ wa.heap.size := hb.size
      clear hwa hr hb
      go_cut [18] (fun v wx => v = .bool (!hea) ∧ Below wa.heap.size wa wx)
      case first =>
        go_region_held3 (fun w' => w'.cell? ⟨p, 0, none⟩ = some (.int .i64 x) ∧ w'.cell? ⟨w.heap.size, 0, none⟩ = some (.int .i64 mo) ∧ w'.cell? ⟨w.heap.size, 1, none⟩ = some (.slice (some ⟨g, o, none⟩) nt ct) ∧ w'.cell? ⟨g, o + k, none⟩ = some (.bool thk) ∧ w'.cell? ⟨r, 0, none⟩ = some (.int .i64 G) ∧ w'.cell? ⟨r, 1, none⟩ = some (.int .i64 O) ∧ w'.cell? ⟨r, 2, none⟩ = some (.int .i64 T) ∧ w'.cell? ⟨r, 3, none⟩ = some (.bool F) ∧ w'.cell? ⟨r, 4, none⟩ = some (.int .i64 U)) (first | exact ⟨r0, s0, s1, tc, d0, d1, d2, d3, d4⟩ | exact ⟨(B7.cell (p := ⟨p, 0, none⟩) zpa).trans r0, (B7.cell (p := ⟨w.heap.size, 0, none⟩) zwa).trans s0, (B7.cell (p := ⟨w.heap.size, 1, none⟩) zwa).trans s1, (B7.cell (p := ⟨g, o + k, none⟩) zga).trans tc, (B7.cell (p := ⟨r, 0, none⟩) zr).trans d0, (B7.cell (p := ⟨r, 1, none⟩) zr).trans d1, (B7.cell (p := ⟨r, 2, none⟩) zr).trans d2, (B7.cell (p := ⟨r, 3, none⟩) zr).trans d3, (B7.cell (p := ⟨r, 4, none⟩) zr).trans d4⟩) (first
          | (go_at_call 79; refine (HHc.out _).mono ?_; rintro e w3 ⟨rfl, h3⟩; have B7 : Below wa.heap.size wa w3 := Below.trans (by repeat (first | with_reducible exact Below.refl _ _ | with_reducible refine Below.setCell ?_ (by first | omega | (simp; done) | (simp; omega)) _ | with_reducible refine bDrewN ?_ _ | with_reducible refine Below.drew ?_ | with_reducible refine Below.alloc ?_ (by first | omega | (simp; done) | (simp; omega)) _)) (h3.mono (by first | omega | (simp; done) | (simp; omega))); clear h3))
        all_goals
          go_wp2_with fail
          go_meet
          exact ⟨rfl, B7⟩
      obtain ⟨rfl, hb⟩ := hcut
      rename World => w3
      replace r0 := (hb.cell (p := ⟨p, 0, none⟩) zpa).trans r0
      replace r1 := (hb.cell (p := ⟨p, 1, none⟩) zpa).trans r1
      replace d0 := (hb.cell (p := ⟨r, 0, none⟩) zr).trans d0
      replace d1 := (hb.cell (p := ⟨r, 1, none⟩) zr).trans d1
      replace d2 := (hb.cell (p := ⟨r, 2, none⟩) zr).trans d2
      replace d3 := (hb.cell (p := ⟨r, 3, none⟩) zr).trans d3
      replace d4 := (hb.cell (p := ⟨r, 4, none⟩) zr).trans d4
      have BX : Below wr.heap.size wr w3 := HBa.out.trans (hb.mono zrw)
      have zz3 := hb.size
      have zp3 : p < w3.heap.size := by omega
      have zr3 : r < w3.heap.size := by omega
      have HA3 : Hid (AlM b w3 nt (liV V nt Th mo x k)) := HA.out.below BX
      have HO3 : Hid (w3.ownsRow (w.heap.size + 1) 2 1 u5 (liL V nt Th mo x k).length (cellsOf (liL V nt Th mo x k))) := own_below HO.out BX
      have HT3 : Hid (Turn (fun q => q = b ∨ w.heap.size + 1 ≤ q) wS w3) := HTu.out.trans (Turn.grown BX)
      have HE : Hid (∀ z, lisF (G, O, T, F, U) hea (aloB (liV V nt Th mo x k) nt G) = z → liV V nt Th mo x (k + 1) = upd (liV V nt Th mo x k) k z) := fun z hz => by
        show upd (liV V nt Th mo x k) k (lisF (liV V nt Th mo x k k) (heaB (liV V nt Th mo x k k) (Th k) mo x) (aloB (liV V nt Th mo x k) nt (liV V nt Th mo x k k).1)) = _
        rw [HW.out, HH.out]
        show upd (liV V nt Th mo x k) k (lisF (G, O, T, F, U) hea (aloB (liV V nt Th mo x k) nt G)) = _
        rw [hz]
      have HEL : Hid (∀ q : Bool, telB (G, O, T, F, U) hea = q → liL V nt Th mo x (k + 1) = if q = true then liL V nt Th mo x k ++ [(k : Int)] else liL V nt Th mo x k) := fun q hq => by
        show (if telB (liV V nt Th mo x k k) (heaB (liV V nt Th mo x k k) (Th k) mo x) = true then liL V nt Th mo x k ++ [(k : Int)] else liL V nt Th mo x k) = _
        rw [HW.out, HH.out, hq]
      have e0' := (BX.cell (p := ⟨b, k * 5, none⟩) zbr).trans e0
      have e1' := (BX.cell (p := ⟨b, k * 5 + 1, none⟩) zbr).trans e1
      have e2' := (BX.cell (p := ⟨b, k * 5 + 2, none⟩) zbr).trans e2
      have e3' := (BX.cell (p := ⟨b, k * 5 + 3, none⟩) zbr).trans e3
      have e4' := (BX.cell (p := ⟨b, k * 5 + 4, none⟩) zbr).trans e4
      have f' : ∀ o, w3.frozen? ⟨b, o, none⟩ = false := fun o => (BX.frozen (p := ⟨b, o, none⟩) zbr).trans (hf o)
      have zb3 : b < w3.heap.size := by omega
      clear hb BX e0 e1 e2 e3 e4 hf s0 s1 tc HBa HHc
      cases hea
      case false =>
        obtain ⟨⟨G2, O2, T2, F2, U2⟩, hZ⟩ : ∃ z, lisF (G, O, T, F, U) false false = z := ⟨_, rfl⟩
        have HC : Hid (∀ w, Calls Try.prog 80 #[.agg #[.int .i64 G, .int .i64 O, .int .i64 T, .bool F, .int .i64 U]] w fun e w' => e = .returned (.agg #[.int .i64 G2, .int .i64 O2, .int .i64 T2, .bool F2, .int .i64 U2]) ∧ Below w.heap.size w w') := fun w => by
          have := left_any G O T U F w
          rw [hZ] at this
          exact this
        have E1 : Hid (liV V nt Th mo x (k + 1) = upd (liV V nt Th mo x k) k (G2, O2, T2, F2, U2)) := HE.out _ (by rw [← hZ]; exact lis_no)
        have E2 : Hid (liL V nt Th mo x (k + 1) = liL V nt Th mo x k) := (show liL V nt Th mo x (k + 1) = liL V nt Th mo x k from by have := HEL.out false rfl; simpa using this)
        have HK : Hid (∀ w4, Below w3.heap.size w3 w4 → AlM b (((((w4.setCell ⟨b, k * 5, none⟩ (.int .i64 G2)).setCell ⟨b, k * 5 + 1, none⟩ (.int .i64 O2)).setCell ⟨b, k * 5 + 2, none⟩ (.int .i64 T2)).setCell ⟨b, k * 5 + 3, none⟩ (.bool F2)).setCell ⟨b, k * 5 + 4, none⟩ (.int .i64 U2)) nt (liV V nt Th mo x (k + 1)) ∧ ((((((w4.setCell ⟨b, k * 5, none⟩ (.int .i64 G2)).setCell ⟨b, k * 5 + 1, none⟩ (.int .i64 O2)).setCell ⟨b, k * 5 + 2, none⟩ (.int .i64 T2)).setCell ⟨b, k * 5 + 3, none⟩ (.bool F2)).setCell ⟨b, k * 5 + 4, none⟩ (.int .i64 U2))).ownsRow (w.heap.size + 1) 2 1 u5 (liL V nt Th mo x (k + 1)).length (cellsOf (liL V nt Th mo x (k + 1))) ∧ Turn (fun q => q = b ∨ w.heap.size + 1 ≤ q) wS (((((w4.setCell ⟨b, k * 5, none⟩ (.int .i64 G2)).setCell ⟨b, k * 5 + 1, none⟩ (.int .i64 O2)).setCell ⟨b, k * 5 + 2, none⟩ (.int .i64 T2)).setCell ⟨b, k * 5 + 3, none⟩ (.bool F2)).setCell ⟨b, k * 5 + 4, none⟩ (.int .i64 U2))) := fun w4 h4 => by
          rw [E1.out, E2.out]
          exact ⟨(HA3.out.below h4).on h1 G2 O2 T2 F2 U2, own_beside (own_below HO3.out h4) set5_beside (by omega), (HT3.out.trans (Turn.grown h4)).trans (Turn.of set5_beside (.inl rfl))⟩
        clear hZ
        go_wp2_with fail
        go_region_held3 (fun w' => w'.cell? ⟨p, 0, none⟩ = some (.int .i64 x) ∧ w'.cell? ⟨p, 1, none⟩ = some (.slice (some ⟨b, 0, none⟩) nt nt) ∧ w'.cell? ⟨r, 0, none⟩ = some (.int .i64 G) ∧ w'.cell? ⟨r, 1, none⟩ = some (.int .i64 O) ∧ w'.cell? ⟨r, 2, none⟩ = some (.int .i64 T) ∧ w'.cell? ⟨r, 3, none⟩ = some (.bool F) ∧ w'.cell? ⟨r, 4, none⟩ = some (.int .i64 U)) (first | with_reducible exact ⟨r0, r1, d0, d1, d2, d3, d4⟩ | (refine keepLi2 r0 r1 d0 d1 d2 d3 d4 zp3 zr3 pb rb ?_; with_reducible exact BS) | (refine keepLi r0 r1 d0 d1 d2 d3 d4 zp3 zr3 ?_; exact (by repeat (first | with_reducible exact Below.refl _ _ | with_reducible exact B8 | with_reducible exact B7 | with_reducible refine Below.setCell ?_ (by first | omega | (simp; done) | (simp; omega)) _ | with_reducible refine bDrewN ?_ _ | with_reducible refine Below.drew ?_ | with_reducible refine Below.alloc ?_ (by first | omega | (simp; done) | (simp; omega)) _)))) (first
          | (go_at_call 80; refine (HC.out _).mono ?_; rintro e w4 ⟨rfl, h4⟩; have B7 : Below w3.heap.size w3 w4 := Below.trans (by repeat (first | with_reducible exact Below.refl _ _ | with_reducible refine Below.setCell ?_ (by first | omega | (simp; done) | (simp; omega)) _ | with_reducible refine bDrewN ?_ _ | with_reducible refine Below.drew ?_ | with_reducible refine Below.alloc ?_ (by first | omega | (simp; done) | (simp; omega)) _)) (h4.mono (by first | omega | (simp; done) | (simp; omega))); clear h4; have y0 := (B7.cell (p := ⟨b, k * 5, none⟩) zb3).trans e0'; have y1 := (B7.cell (p := ⟨b, k * 5 + 1, none⟩) zb3).trans e1'; have y2 := (B7.cell (p := ⟨b, k * 5 + 2, none⟩) zb3).trans e2'; have y3 := (B7.cell (p := ⟨b, k * 5 + 3, none⟩) zb3).trans e3'; have y4 := (B7.cell (p := ⟨b, k * 5 + 4, none⟩) zb3).trans e4'; have fy := fun o => (B7.frozen (p := ⟨b, o, none⟩) zb3).trans (f' o); have BS := (Beside.of (r := b) B7).trans (set5_beside (w := w4) (b := b) (o0 := k * 5) (o1 := k * 5 + 1) (o2 := k * 5 + 2) (o3 := k * 5 + 3) (o4 := k * 5 + 4) (v0 := .int .i64 G2) (v1 := .int .i64 O2) (v2 := .int .i64 T2) (v3 := .bool F2) (v4 := .int .i64 U2))))
        all_goals
          have HX := HK.out _ B7
          have HX1 : Hid (AlM b (((((w4.setCell ⟨b, k * 5, none⟩ (.int .i64 G2)).setCell ⟨b, k * 5 + 1, none⟩ (.int .i64 O2)).setCell ⟨b, k * 5 + 2, none⟩ (.int .i64 T2)).setCell ⟨b, k * 5 + 3, none⟩ (.bool F2)).setCell ⟨b, k * 5 + 4, none⟩ (.int .i64 U2)) nt (liV V nt Th mo x (k + 1))) := HX.1
          have HX2 : Hid (((((((w4.setCell ⟨b, k * 5, none⟩ (.int .i64 G2)).setCell ⟨b, k * 5 + 1, none⟩ (.int .i64 O2)).setCell ⟨b, k * 5 + 2, none⟩ (.int .i64 T2)).setCell ⟨b, k * 5 + 3, none⟩ (.bool F2)).setCell ⟨b, k * 5 + 4, none⟩ (.int .i64 U2))).ownsRow (w.heap.size + 1) 2 1 u5 (liL V nt Th mo x (k + 1)).length (cellsOf (liL V nt Th mo x (k + 1)))) := HX.2.1
          have HX3 : Hid (Turn (fun q => q = b ∨ w.heap.size + 1 ≤ q) wS (((((w4.setCell ⟨b, k * 5, none⟩ (.int .i64 G2)).setCell ⟨b, k * 5 + 1, none⟩ (.int .i64 O2)).setCell ⟨b, k * 5 + 2, none⟩ (.int .i64 T2)).setCell ⟨b, k * 5 + 3, none⟩ (.bool F2)).setCell ⟨b, k * 5 + 4, none⟩ (.int .i64 U2))) := HX.2.2
          clear HX
          go_wp2
          go_roundw
          case rel => exact ⟨k + 1, by omega, by go_num, HX1.out, HX2.out, HX3.out⟩
          case measure => first | (simp [intOf]; done) | (simp [intOf]; omega)
      case true =>
        go_wp2_with fail
        refine (stands_any G O T U F _).mono ?_
        rintro e w4 ⟨rfl, h4⟩
        replace r0 := (h4.cell (p := ⟨p, 0, none⟩) zp3).trans r0
        replace r1 := (h4.cell (p := ⟨p, 1, none⟩) zp3).trans r1
        replace d0 := (h4.cell (p := ⟨r, 0, none⟩) zr3).trans d0
        replace d1 := (h4.cell (p := ⟨r, 1, none⟩) zr3).trans d1
        replace d2 := (h4.cell (p := ⟨r, 2, none⟩) zr3).trans d2
        replace d3 := (h4.cell (p := ⟨r, 3, none⟩) zr3).trans d3
        replace d4 := (h4.cell (p := ⟨r, 4, none⟩) zr3).trans d4
        replace e0' := (h4.cell (p := ⟨b, k * 5, none⟩) zb3).trans e0'
        replace e1' := (h4.cell (p := ⟨b, k * 5 + 1, none⟩) zb3).trans e1'
        replace e2' := (h4.cell (p := ⟨b, k * 5 + 2, none⟩) zb3).trans e2'
        replace e3' := (h4.cell (p := ⟨b, k * 5 + 3, none⟩) zb3).trans e3'
        replace e4' := (h4.cell (p := ⟨b, k * 5 + 4, none⟩) zb3).trans e4'
        replace f' : ∀ o, w4.frozen? ⟨b, o, none⟩ = false := fun o => (h4.frozen (p := ⟨b, o, none⟩) zb3).trans (f' o)
        have z4 := h4.size
        replace zp3 : p < w4.heap.size := by omega
        replace zr3 : r < w4.heap.size := by omega
        replace zb3 : b < w4.heap.size := by omega
        replace HA3 : Hid (AlM b w4 nt (liV V nt Th mo x k)) := HA3.out.below h4
        replace HO3 : Hid (w4.ownsRow (w.heap.size + 1) 2 1 u5 (liL V nt Th mo x k).length (cellsOf (liL V nt Th mo x k))) := own_below HO3.out h4
        replace HT3 : Hid (Turn (fun q => q = b ∨ w.heap.size + 1 ≤ q) wS w4) := HT3.out.trans (Turn.grown h4)
        clear h4 HA HO HTu
        by_cases hT : T = 0 ∨ T = 3
        case neg =>
          have hT2 : (decide (T = 1) || decide (T = 2)) = true := by
            have : T = 1 ∨ T = 2 := by omega
            rcases this with h | h <;> simp [h]
          have E1 : Hid (liV V nt Th mo x (k + 1) = liV V nt Th mo x k) := (HE.out (G, O, T, F, U) (by have a : ¬ T = 0 := fun e => hT (.inl e); have c : ¬ T = 3 := fun e => hT (.inr e); simp [lisF, a, c])).trans (upd_same HW.out)
          have E2 : Hid (liL V nt Th mo x (k + 1) = liL V nt Th mo x k) := (show liL V nt Th mo x (k + 1) = liL V nt Th mo x k from by have := HEL.out false (by have a : ¬ T = 0 := fun e => hT (.inl e); have c : ¬ T = 3 := fun e => hT (.inr e); simp [telB, a, c]); simpa using this)
          rw [hT2]
          go_wp2
          go_roundw
          case rel => exact ⟨k + 1, by omega, by go_num, by rw [E1.out]; exact HA3.out, by rw [E2.out]; exact HO3.out, HT3.out⟩
          case measure => first | (simp [intOf]; done) | (simp [intOf]; omega)
        have hT2 : (decide (T = 1) || decide (T = 2)) = false := by rcases hT with h | h <;> simp [h]
        rw [hT2]
        obtain ⟨al, hal⟩ : ∃ al, aloB (liV V nt Th mo x k) nt G = al := ⟨_, rfl⟩
        have E1 : Hid (liV V nt Th mo x (k + 1) = upd (liV V nt Th mo x k) k (G, O, 1, F || al, U)) := HE.out _ (by rw [← hal]; exact (come_is h1 HW.out HTk.out hT).symm)
        have E2 : Hid (liL V nt Th mo x (k + 1) = liL V nt Th mo x k ++ [(k : Int)]) := (show liL V nt Th mo x (k + 1) = liL V nt Th mo x k ++ [(k : Int)] from by have := HEL.out true (by rcases hT with h | h <;> simp [telB, h]); simpa using this)
        obtain ⟨FL, hFL⟩ : ∃ FL, flA (liV V nt Th mo x k) G nt = FL := ⟨_, rfl⟩
        have heq := fun W => eql_flags2 (liV V nt Th mo x k) nt G (by omega) W
        rw [hal, hFL] at heq
        have HAw : Hid (∀ W, Below w4.heap.size w4 W → Calls Try.prog 83 #[.agg #[.int .i64 x, .slice (some ⟨b, 0, none⟩) nt nt], .int .i64 G] W fun e w' => e = .returned (.agg FL) ∧ Below W.heap.size W w') := fun W hW => by
          have := awake_any x (some ⟨b, 0, none⟩) nt nt (liV V nt Th mo x k) G W hn (HA3.out.below hW).row
          rw [hFL] at this
          exact this
        obtain ⟨F2, hF2⟩ : ∃ F2, (F || al) = F2 := ⟨_, rfl⟩
        have HCo : Hid (∀ W, Calls Try.prog 82 #[.agg #[.int .i64 G, .int .i64 O, .int .i64 T, .bool F, .int .i64 U], .bool al] W fun e w' => e = .returned (.agg #[.int .i64 G, .int .i64 O, .int .i64 1, .bool F2, .int .i64 U]) ∧ Below W.heap.size W w') := fun W => by
          have := come_any G O T U F al W
          rw [hF2] at this
          exact this
        rw [hF2] at E1
        have HK : Hid (∀ w6, Below w4.heap.size w4 w6 → AlM b (((((w6.setCell ⟨b, k * 5, none⟩ (.int .i64 G)).setCell ⟨b, k * 5 + 1, none⟩ (.int .i64 O)).setCell ⟨b, k * 5 + 2, none⟩ (.int .i64 1)).setCell ⟨b, k * 5 + 3, none⟩ (.bool F2)).setCell ⟨b, k * 5 + 4, none⟩ (.int .i64 U)) nt (liV V nt Th mo x (k + 1)) ∧ ((((((w6.setCell ⟨b, k * 5, none⟩ (.int .i64 G)).setCell ⟨b, k * 5 + 1, none⟩ (.int .i64 O)).setCell ⟨b, k * 5 + 2, none⟩ (.int .i64 1)).setCell ⟨b, k * 5 + 3, none⟩ (.bool F2)).setCell ⟨b, k * 5 + 4, none⟩ (.int .i64 U))).ownsRow (w.heap.size + 1) 2 1 u5 (liL V nt Th mo x k).length (cellsOf (liL V nt Th mo x k)) ∧ Turn (fun q => q = b ∨ w.heap.size + 1 ≤ q) wS (((((w6.setCell ⟨b, k * 5, none⟩ (.int .i64 G)).setCell ⟨b, k * 5 + 1, none⟩ (.int .i64 O)).setCell ⟨b, k * 5 + 2, none⟩ (.int .i64 1)).setCell ⟨b, k * 5 + 3, none⟩ (.bool F2)).setCell ⟨b, k * 5 + 4, none⟩ (.int .i64 U))) := fun w6 h6 => by
          rw [E1.out]
          exact ⟨(HA3.out.below h6).on h1 G O 1 F2 U, own_beside (own_below HO3.out h6) set5_beside (by omega), (HT3.out.trans (Turn.grown h6)).trans (Turn.of set5_beside (.inl rfl))⟩
        clear hal hFL hF2
        go_upto_region 8 with fail
        go_cut [60] (fun _ wx => AlM b wx nt (liV V nt Th mo x (k + 1)) ∧ wx.ownsRow (w.heap.size + 1) 2 1 u5 (liL V nt Th mo x k).length (cellsOf (liL V nt Th mo x k)) ∧ Turn (fun q => q = b ∨ w.heap.size + 1 ≤ q) wS wx)
        case first =>
          go_region_held3 (fun w' => w'.cell? ⟨p, 0, none⟩ = some (.int .i64 x) ∧ w'.cell? ⟨p, 1, none⟩ = some (.slice (some ⟨b, 0, none⟩) nt nt) ∧ w'.cell? ⟨r, 0, none⟩ = some (.int .i64 G) ∧ w'.cell? ⟨r, 1, none⟩ = some (.int .i64 O) ∧ w'.cell? ⟨r, 2, none⟩ = some (.int .i64 T) ∧ w'.cell? ⟨r, 3, none⟩ = some (.bool F) ∧ w'.cell? ⟨r, 4, none⟩ = some (.int .i64 U)) (first | with_reducible exact ⟨r0, r1, d0, d1, d2, d3, d4⟩ | (refine keepLi2 r0 r1 d0 d1 d2 d3 d4 zp3 zr3 pb rb ?_; with_reducible exact BS) | (refine keepLi r0 r1 d0 d1 d2 d3 d4 zp3 zr3 ?_; exact (by repeat (first | with_reducible exact Below.refl _ _ | with_reducible exact B8 | with_reducible exact B7 | with_reducible refine Below.setCell ?_ (by first | omega | (simp; done) | (simp; omega)) _ | with_reducible refine bDrewN ?_ _ | with_reducible refine Below.drew ?_ | with_reducible refine Below.alloc ?_ (by first | omega | (simp; done) | (simp; omega)) _)))) (first
            | (go_at_call 83; refine (HAw.out _ (by repeat (first | with_reducible exact Below.refl _ _ | with_reducible refine Below.setCell ?_ (by first | omega | (simp; done) | (simp; omega)) _ | with_reducible refine bDrewN ?_ _ | with_reducible refine Below.drew ?_ | with_reducible refine Below.alloc ?_ (by first | omega | (simp; done) | (simp; omega)) _))).mono ?_; rintro e w5 ⟨rfl, h5⟩; have B7 : Below w4.heap.size w4 w5 := Below.trans (by repeat (first | with_reducible exact Below.refl _ _ | with_reducible refine Below.setCell ?_ (by first | omega | (simp; done) | (simp; omega)) _ | with_reducible refine bDrewN ?_ _ | with_reducible refine Below.drew ?_ | with_reducible refine Below.alloc ?_ (by first | omega | (simp; done) | (simp; omega)) _)) (h5.mono (by first | omega | (simp; done) | (simp; omega))); have s7 := B7.size; clear h5)
            | (go_at_call 82; refine (HCo.out _).mono ?_; rintro e w6 ⟨rfl, h6⟩; have B8 : Below w4.heap.size w4 w6 := Below.trans (by repeat (first | with_reducible exact Below.refl _ _ | with_reducible exact B7 | with_reducible refine Below.setCell ?_ (by first | omega | (simp; done) | (simp; omega)) _ | with_reducible refine bDrewN ?_ _ | with_reducible refine Below.drew ?_ | with_reducible refine Below.alloc ?_ (by first | omega | (simp; done) | (simp; omega)) _)) (h6.mono (by first | omega | (simp; done) | (simp; omega))); clear h6; have y0 := (B8.cell (p := ⟨b, k * 5, none⟩) zb3).trans e0'; have y1 := (B8.cell (p := ⟨b, k * 5 + 1, none⟩) zb3).trans e1'; have y2 := (B8.cell (p := ⟨b, k * 5 + 2, none⟩) zb3).trans e2'; have y3 := (B8.cell (p := ⟨b, k * 5 + 3, none⟩) zb3).trans e3'; have y4 := (B8.cell (p := ⟨b, k * 5 + 4, none⟩) zb3).trans e4'; have fy := fun o => (B8.frozen (p := ⟨b, o, none⟩) zb3).trans (f' o); have BS := (Beside.of (r := b) B8).trans (set5_beside (w := w6) (b := b) (o0 := k * 5) (o1 := k * 5 + 1) (o2 := k * 5 + 2) (o3 := k * 5 + 3) (o4 := k * 5 + 4) (v0 := .int .i64 G) (v1 := .int .i64 O) (v2 := .int .i64 1) (v3 := .bool F2) (v4 := .int .i64 U))))
          all_goals
            have HX := HK.out _ B8
            have HX1 : Hid (AlM b (((((w6.setCell ⟨b, k * 5, none⟩ (.int .i64 G)).setCell ⟨b, k * 5 + 1, none⟩ (.int .i64 O)).setCell ⟨b, k * 5 + 2, none⟩ (.int .i64 1)).setCell ⟨b, k * 5 + 3, none⟩ (.bool F2)).setCell ⟨b, k * 5 + 4, none⟩ (.int .i64 U)) nt (liV V nt Th mo x (k + 1))) := HX.1
            have HX2 : Hid (((((((w6.setCell ⟨b, k * 5, none⟩ (.int .i64 G)).setCell ⟨b, k * 5 + 1, none⟩ (.int .i64 O)).setCell ⟨b, k * 5 + 2, none⟩ (.int .i64 1)).setCell ⟨b, k * 5 + 3, none⟩ (.bool F2)).setCell ⟨b, k * 5 + 4, none⟩ (.int .i64 U))).ownsRow (w.heap.size + 1) 2 1 u5 (liL V nt Th mo x k).length (cellsOf (liL V nt Th mo x k))) := HX.2.1
            have HX3 : Hid (Turn (fun q => q = b ∨ w.heap.size + 1 ≤ q) wS (((((w6.setCell ⟨b, k * 5, none⟩ (.int .i64 G)).setCell ⟨b, k * 5 + 1, none⟩ (.int .i64 O)).setCell ⟨b, k * 5 + 2, none⟩ (.int .i64 1)).setCell ⟨b, k * 5 + 3, none⟩ (.bool F2)).setCell ⟨b, k * 5 + 4, none⟩ (.int .i64 U))) := HX.2.2
            clear HX
            go_wp2_with fail
            go_meet
            exact ⟨HX1.out, HX2.out, HX3.out⟩
        obtain ⟨hA5, hO5, hT5⟩ := hcut
        rename World => w7
        have HA5 : Hid (AlM b w7 nt (liV V nt Th mo x (k + 1))) := hA5
        have HO5 : Hid (w7.ownsRow (w.heap.size + 1) 2 1 u5 (liL V nt Th mo x k).length (cellsOf (liL V nt Th mo x k))) := hO5
        have HT5 : Hid (Turn (fun q => q = b ∨ w.heap.size + 1 ≤ q) wS w7) := hT5
        have z7 := hT5.size
        clear hA5 hO5 hT5 HK HAw HCo HA3 HO3 HT3
        obtain ⟨l, hL⟩ : ∃ l, liL V nt Th mo x k = l := ⟨_, rfl⟩
        rw [hL] at HO5 E2 hl
        clear hL
        go_wp2_with (at_builtin; refine list_i64h (w.heap.size + 1) u5 l.length (cellsOf l) (.tmp 61) (.tmp 63) (by rfl) (by rfl) (by rfl) (by rfl) HO5.out (by omega) (by omega) ?_; intro g' cap' w8 hown8 hgrow8 hlt8 hat8)
        go_roundw
        case rel => exact ⟨k + 1, by omega, by go_num, HA5.out.keep hgrow8.size (hgrow8.block b HA5.out.1 (fun e => by have := own_block HO5.out b e.symm; omega)), by rw [E2.out, cellsOf_snoc]; simpa using hown8, HT5.out.trans (turn_grown hgrow8 (fun q hq => .inr (own_block HO5.out q hq)))⟩
        case measure => first | (simp [intOf]; done) | (simp [intOf]; omega)
    · obtain rfl : k = nt := by omega
      go_wp2
      go_ret
      exact ⟨_, rfl, hA, hown, (Turn.grown HBS.out).trans (hTu.mono (fun q hq => by rcases hq with h | h; exact .inl h; exact .inr (by omega)))⟩
end Go.Proofs.Ytlbbdifmjdpfiaa
