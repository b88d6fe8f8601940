/-
What is proved: the book's tags, as the program counts them.
-/
import Derived.Test.YtikcfpjfcpbfcaaZcH
import Derived.Test.YtikcfpjfcpbfcaaI64Ez
namespace Go.Proofs.Ytikcfpjfcpbfcaa
set_option maxRecDepth 40000
open Go.ChangeShapes Go.WideShapes Go.ChangeAt Go.RowKit
set_option linter.unusedVariables false
set_option linter.unusedSimpArgs false

theorem own_setT {base : Nat} {w : World} {g m : Nat} {E F : Nat → Int} {q : Nat} {v : Int} (h : OwnI base w (some ⟨g, 0, none⟩) m E) (hF : ∀ i, F i = if i = q then v else E i) : OwnI base (w.setCell ⟨g, q, none⟩ (.int .i64 v)) (some ⟨g, 0, none⟩) m F := fun j hj => by
  obtain ⟨b, e, hb, hl, hc, hf⟩ := h j hj
  cases e
  refine ⟨g, rfl, hb, by simpa using hl, ?_, by simpa [go_sem] using hf⟩
  rw [hF]
  by_cases e : j = q
  · subst e
    rw [if_pos rfl]
    exact World.cell?_setCell_same' _ _ _ (by rw [hc]; rfl)
  · rw [if_neg e, World.cell?_setCell_other _ _ _ _ (by intro z; cases z; exact e rfl)]
    exact hc
theorem set_belowT {w w' : World} {B g o : Nat} {v : Value} (h : Below B w w') (hg : B ≤ g) (hB : B ≤ w'.heap.size) : Below B w (w'.setCell ⟨g, o, none⟩ v) := h.trans ((Beside.setCell g w' o v).below hg hB)
theorem own_congrT {base : Nat} {w : World} {s : Option Addr} {m : Nat} {E F : Nat → Int} (h : OwnI base w s m E) (e : ∀ i, E i = F i) : OwnI base w s m F := fun j hj => by
  obtain ⟨b, e', r⟩ := h j hj
  rw [← e]
  exact ⟨b, e', r⟩
set_option maxHeartbeats 800000 in
theorem isValve_any (p : Int) (s : Option Addr) (n c : Nat) (D : Nat → Int × Int) (t : Option Addr) (m d : Nat) (S : Nat → Int) (v : Int) (w : World) (n1 : n ≤ 40) : Calls Try.prog 83 #[.agg #[.int .i64 p, .slice s n c, .slice t m d], .int .i64 v] w fun e w' => e = .returned (.bool (inB 0 ((n : Int) - 1) v)) ∧ Below w.heap.size w w' := by
  go_enter Try.func83, Try.ntmps83
  go_wp2_with fail
  refine (lastValve_any p s n c D t m d S _ n1).mono ?_
  rintro e w1 ⟨rfl, h1⟩
  have B1 : Below w.heap.size w w1 := Below.trans (by repeat (first | with_reducible exact Below.refl _ _ | with_reducible refine Below.setCell ?_ (by first | omega | (simp; done) | (simp; omega)) _ | with_reducible refine bDrewN ?_ _ | with_reducible refine Below.drew ?_ | with_reducible refine Below.alloc ?_ (by first | omega | (simp; done) | (simp; omega)) _)) (h1.mono (by first | omega | (simp; done) | (simp; omega)))
  clear h1
  go_wp2_with fail
  refine (within_is _ _ _ _).mono ?_
  rintro e w1 ⟨rfl, rfl⟩
  go_wp2
  go_ret
  exact ⟨rfl, (by repeat (first | with_reducible exact Below.refl _ _ | with_reducible exact B1 | with_reducible refine Below.setCell ?_ (by first | omega | (simp; done) | (simp; omega)) _ | with_reducible refine bDrewN ?_ _ | with_reducible refine Below.drew ?_ | with_reducible refine Below.alloc ?_ (by first | omega | (simp; done) | (simp; omega)) _))⟩
set_option maxRecDepth 20000 in
set_option maxHeartbeats 4000000 in
theorem tags_any (bs : Option Addr) (nb bc : Nat) (X Y : Nat → Int) (K : Nat → Nat) (V : Nat → Nat → Int) (p : Int) (s : Option Addr) (n c : Nat) (D : Nat → Int × Int) (t : Option Addr) (m d : Nat) (S : Nat → Int) (w : World) (HO : Hid (bokB p n D m S nb X Y K V = true)) (hK : Hid (∀ i, i < nb → (K i : Int) ≤ 1048576)) (HB : Hid (RowPer w bs nb X Y K V)) :
    Calls Try.prog 65 #[.agg #[.slice bs nb bc], .agg #[.int .i64 p, .slice s n c, .slice t m d]] w fun e w' => ∃ g, e = .returned (.slice (some ⟨g, 0, none⟩) n n) ∧ OwnI w.heap.size w' (some ⟨g, 0, none⟩) n (cntP K V nb) ∧ g < w'.heap.size ∧ Below w.heap.size w w' := by
  obtain ⟨hN, nb20, hP⟩ := bok_yes HO.out
  obtain ⟨⟨p0, p1⟩, n40, -, -, -⟩ := net_yes hN
  have HF : Hid (∀ i, i < nb → risB (V i) (K i) = true ∧ ∀ r, r < K i → 0 ≤ V i r ∧ V i r ≤ (n : Int) - 1) := fun i hi => by
    have h1 := fm_yes (pm_yes (hP i hi)).1
    exact ⟨h1.2.2.1, h1.2.2.2⟩
  have n2 : (n : Int) ≤ 40 := by omega
  have b2 : (nb : Int) ≤ 20 := by omega
  have hmk := make_i64 n (by omega)
  clear hN hP
  go_enter Try.func65, Try.ntmps65
  go_upto_region 1 with fail
  obtain ⟨wd, hwd⟩ : ∃ wd, wd = (w.alloc (.cells #[.slice bs nb bc] 36)).alloc (.cells #[.int .i64 p, .slice s n c, .slice t m d] 41) := ⟨_, rfl⟩
  rw [← hwd]
  have B0 : Below w.heap.size w wd := by rw [hwd]; exact (by repeat (first | with_reducible exact Below.refl _ _ | with_reducible refine Below.setCell ?_ (by first | omega | (simp; done) | (simp; omega)) _ | with_reducible refine bDrewN ?_ _ | with_reducible refine Below.drew ?_ | with_reducible refine Below.alloc ?_ (by first | omega | (simp; done) | (simp; omega)) _))
  have q0 : wd.cell? ⟨w.heap.size, 0, none⟩ = some (.slice bs nb bc) := by rw [hwd]; simp [go_sem]
  have q1 : wd.cell? ⟨w.heap.size + 1, 1, none⟩ = some (.slice s n c) := by rw [hwd]; simp [go_sem]
  have zd : w.heap.size + 1 < wd.heap.size := by rw [hwd]; simp
  have zn : w.heap.size < wd.heap.size := by omega
  have HB0 : Hid (Below w.heap.size w wd) := B0
  have HL0 : Hid (OwnI wd.heap.size (wd.alloc (.cells (madeCells #[.int .i64 0] n) 2)) (some ⟨wd.heap.size, 0, none⟩) n (cntP K V 0)) := fun j hj => by
    obtain ⟨h1, h2, h3, h4⟩ := rowTo_start wd n (fun _ => 0) 2
    exact ⟨wd.heap.size, rfl, Nat.le_refl _, h2, by rw [h4 j hj]; simp [cntP], h3 j⟩
  clear hwd B0
  go_wp2_with fail
  clear q0 q1
  go_loopw [17] (fun i wr => ∃ k : Nat, k ≤ nb ∧ i = .int .i64 k ∧ Hid (OwnI wd.heap.size wr (some ⟨wd.heap.size, 0, none⟩) n (cntP K V k)) ∧ wd.heap.size < wr.heap.size ∧ Hid (Below wd.heap.size wd wr)) (fun i _ => nb - (intOf i).toNat)
  case atStart => exact ⟨0, Nat.zero_le _, rfl, HL0.out, by simp, (by show Below _ _ _; exact (by repeat (first | with_reducible exact Below.refl _ _ | with_reducible refine Below.setCell ?_ (by first | omega | (simp; done) | (simp; omega)) _ | with_reducible refine bDrewN ?_ _ | with_reducible refine Below.drew ?_ | with_reducible refine Below.alloc ?_ (by first | omega | (simp; done) | (simp; omega)) _)))⟩
  case round =>
    clear HL0
    obtain ⟨k, hk, rfl, HL, zr, HBr⟩ := hrel
    have HBw : Hid (Below w.heap.size w wr) := HB0.out.trans (HBr.out.mono HB0.out.size)
    by_cases h2 : k < nb
    · obtain ⟨g, o, a, e, rfl, hg, c0, c1, c2, hr⟩ := HB.out k h2
      replace c0 := (HBw.out.cell (p := ⟨g, o + k * 3, none⟩) hg).trans c0
      replace c1 := (HBw.out.cell (p := ⟨g, o + k * 3 + 1, none⟩) hg).trans c1
      replace c2 := (HBw.out.cell (p := ⟨g, o + k * 3 + 2, none⟩) hg).trans c2
      have zg : g < wr.heap.size := Nat.lt_of_lt_of_le hg HBw.out.size
      have k1 : (k : Int) < (nb : Int) := by omega
      have kk := hK.out k h2
      obtain ⟨hris, hin⟩ := HF.out k h2
      have HRS : Hid (risB (V k) (K k) = true) := hris
      have HIN : Hid (∀ r, r < K k → 0 ≤ V k r ∧ V k r ≤ (n : Int) - 1) := hin
      have HI : Hid (RowI w a (K k) (V k)) := hr
      have HEND : Hid (∀ v, tgI K V k (K k) v = cntP K V (k + 1) v) := fun v => rfl
      have HL1 : Hid (OwnI wd.heap.size wr (some ⟨wd.heap.size, 0, none⟩) n (tgI K V k 0)) := own_congrT HL.out (fun v => (tg_start K V k v).symm)
      obtain ⟨l, hl⟩ : ∃ l, K k = l := ⟨_, rfl⟩
      rw [hl] at c2 HI HRS HIN HEND kk
      clear hr hris hin hl hg HL
      go_upto_region 5 with fail
      obtain ⟨wa, hwa⟩ : ∃ wa, wa = wr.alloc (.cells #[.int .i64 (X k), .int .i64 (Y k), .slice a l e] 44) := ⟨_, rfl⟩
      rw [← hwa]
      have hb : Below wr.heap.size wr wa := by rw [hwa]; exact below0 _ _
      have v2 : wa.cell? ⟨wr.heap.size, 2, none⟩ = some (.slice a l e) := by rw [hwa]; simp [go_sem]
      have za : wr.heap.size < wa.heap.size := by rw [hwa]; simp
      have HL2 : Hid (OwnI wd.heap.size wa (some ⟨wd.heap.size, 0, none⟩) n (tgI K V k 0)) := HL1.out.below hb
      have HBa : Hid (Below wd.heap.size wd wa) := HBr.out.trans (hb.mono (by omega))
      have HBA : Hid (Below w.heap.size w wa) := HBw.out.trans (hb.mono HBw.out.size)
      have zra : wd.heap.size < wa.heap.size := by omega
      clear hwa hb c0 c1 c2 zg HL1
      go_wp2_with fail
      clear v2
      go_loopw [24] (fun i ws => ∃ r : Nat, r ≤ l ∧ i = .int .i64 r ∧ Hid (OwnI wd.heap.size ws (some ⟨wd.heap.size, 0, none⟩) n (tgI K V k r)) ∧ wd.heap.size < ws.heap.size ∧ Hid (Below wd.heap.size wd ws)) (fun i _ => l - (intOf i).toNat)
      case atStart => exact ⟨0, Nat.zero_le _, rfl, HL2.out, zra, HBa.out⟩
      case round =>
        clear HL2
        obtain ⟨r, hr, rfl, HLr, zs, HBs⟩ := hrel
        have HBS : Hid (Below w.heap.size w _) := HB0.out.trans (HBs.out.mono HB0.out.size)
        by_cases h3 : r < l
        · obtain ⟨ga, oa, rfl, hga, d0⟩ := HI.out r h3
          have d1 := (HBS.out.cell (p := ⟨ga, oa + r, none⟩) hga).trans d0
          have zga := Nat.lt_of_lt_of_le hga HBS.out.size
          obtain ⟨y0, y1⟩ := HIN.out r h3
          obtain ⟨x, hx⟩ : ∃ x : Nat, V k r = (x : Int) := ⟨(V k r).toNat, by omega⟩
          have HST : Hid (∀ v, tgI K V k (r + 1) v = if v = x then tgI K V k r x + 1 else tgI K V k r v) := tg_step HRS.out h3 hx
          rw [hx] at d1 y0 y1
          have xn : x < n := by omega
          have xi : (x : Int) < (n : Int) := by omega
          have r1 : (r : Int) < (l : Int) := by omega
          obtain ⟨b', e', -, zb, cx, fx⟩ := HLr.out x xn
          cases e'
          have cb := cntP_in K V k x
          have tb : 0 ≤ tgI K V k r x ∧ tgI K V k r x ≤ 21 := by unfold tgI; split <;> omega
          obtain ⟨q, hq⟩ : ∃ q, tgI K V k r x = q := ⟨_, rfl⟩
          rw [hq] at cx HST tb
          have HN := own_setT (F := tgI K V k (r + 1)) (q := x) (v := q + 1) HLr.out HST.out
          have HNH : Hid _ := HN
          have HBN : Hid _ := set_belowT (g := wd.heap.size) (o := x) (v := .int .i64 (q + 1)) HBs.out (Nat.le_refl _) (by omega)
          clear d0 hga hq hx HN cb
          go_wp2
          go_roundw
          case rel => exact ⟨r + 1, by omega, by go_num, HNH.out, by simpa using zs, HBN.out⟩
          case measure => first | (simp [intOf]; done) | (simp [intOf]; omega)
        · obtain rfl : r = l := by omega
          have HLE := own_congrT HLr.out HEND.out
          have HLEH : Hid _ := HLE
          clear HLE
          go_wp2
          go_roundw
          case rel => exact ⟨k + 1, by omega, by go_num, HLEH.out, zs, HBs.out⟩
          case measure => first | (simp [intOf]; done) | (simp [intOf]; omega)
    · obtain rfl : k = nb := by omega
      go_wp2
      go_ret
      exact ⟨_, rfl, HL.out.mono (by omega), zr, HBw.out⟩
end Go.Proofs.Ytikcfpjfcpbfcaa
