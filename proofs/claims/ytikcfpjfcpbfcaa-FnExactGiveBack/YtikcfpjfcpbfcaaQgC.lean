/-
What is proved: the book's tags, as the program counts them.
-/
import Derived.Test.YtikcfpjfcpbfcaaTgz
import Derived.Test.YtikcfpjfcpbfcaaI64E
import Derived.Test.YtikcfpjfcpbfcaaOpen
import Derived.Test.YtikcfpjfcpbfcaaRowI
import Derived.Test.YtikcfpjfcpbfcaaTn
import Derived.Deep.DeepCutAuto
import Derived.Test.YtikcfpjfcpbfcaaGbJz
import Derived.Test.YtikcfpjfcpbfcaaQgB
import Derived.Test.YtikcfpjfcpbfcaaQgA
namespace Go.Proofs.Ytikcfpjfcpbfcaa
set_option maxRecDepth 40000
open Go.ChangeShapes Go.WideShapes Go.ChangeAt Go.RowKit
set_option linter.unusedVariables false
set_option linter.unusedSimpArgs false

theorem own_setT {base : Nat} {w : World} {g m : Nat} {E F : Nat → Int} {q : Nat} {v : Int} (h : OwnI base w (some ⟨g, 0, none⟩) m E) (hF : ∀ i, F i = if i = q then v else E i) : OwnI base (w.setCell ⟨g, q, none⟩ (.int .i64 v)) (some ⟨g, 0, none⟩) m F := fun j hj => by
  obtain ⟨b, e, hb, hl, hc, hf⟩ := h j hj
  cases e
  refine ⟨g, rfl, hb, by simpa using hl, ?_, by simpa [go_sem] using hf⟩
  rw [hF]
  by_cases e : j = q
  · subst e
    rw [if_pos rfl]
    exact World.cell?_setCell_same' _ _ _ (by rw [hc]; rfl)
  · rw [if_neg e, World.cell?_setCell_other _ _ _ _ (by intro z; cases z; exact e rfl)]
    exact hc
theorem set_belowT {w w' : World} {B g o : Nat} {v : Value} (h : Below B w w') (hg : B ≤ g) (hB : B ≤ w'.heap.size) : Below B w (w'.setCell ⟨g, o, none⟩ v) := h.trans ((Beside.setCell g w' o v).below hg hB)
theorem own_congrT {base : Nat} {w : World} {s : Option Addr} {m : Nat} {E F : Nat → Int} (h : OwnI base w s m E) (e : ∀ i, E i = F i) : OwnI base w s m F := fun j hj => by
  obtain ⟨b, e', r⟩ := h j hj
  rw [← e]
  exact ⟨b, e', r⟩
set_option maxHeartbeats 800000 in
theorem isValve_any (p : Int) (s : Option Addr) (n c : Nat) (D : Nat → Int × Int) (t : Option Addr) (m d : Nat) (S : Nat → Int) (v : Int) (w : World) (n1 : n ≤ 40) : Calls Try.prog 83 #[.agg #[.int .i64 p, .slice s n c, .slice t m d], .int .i64 v] w fun e w' => e = .returned (.bool (inB 0 ((n : Int) - 1) v)) ∧ Below w.heap.size w w' := by
  go_enter Try.func83, Try.ntmps83
  go_wp2_with fail
  refine (lastValve_any p s n c D t m d S _ n1).mono ?_
  rintro e w1 ⟨rfl, h1⟩
  have B1 : Below w.heap.size w w1 := Below.trans (by repeat (first | with_reducible exact Below.refl _ _ | with_reducible refine Below.setCell ?_ (by first | omega | (simp; done) | (simp; omega)) _ | with_reducible refine bDrewN ?_ _ | with_reducible refine Below.drew ?_ | with_reducible refine Below.alloc ?_ (by first | omega | (simp; done) | (simp; omega)) _)) (h1.mono (by first | omega | (simp; done) | (simp; omega)))
  clear h1
  go_wp2_with fail
  refine (within_is _ _ _ _).mono ?_
  rintro e w1 ⟨rfl, rfl⟩
  go_wp2
  go_ret
  exact ⟨rfl, (by repeat (first | with_reducible exact Below.refl _ _ | with_reducible exact B1 | with_reducible refine Below.setCell ?_ (by first | omega | (simp; done) | (simp; omega)) _ | with_reducible refine bDrewN ?_ _ | with_reducible refine Below.drew ?_ | with_reducible refine Below.alloc ?_ (by first | omega | (simp; done) | (simp; omega)) _))⟩
set_option maxRecDepth 20000 in
set_option maxHeartbeats 4000000 in
theorem tags_any (bs : Option Addr) (nb bc : Nat) (X Y : Nat → Int) (K : Nat → Nat) (V : Nat → Nat → Int) (p : Int) (s : Option Addr) (n c : Nat) (D : Nat → Int × Int) (t : Option Addr) (m d : Nat) (S : Nat → Int) (w : World) (HO : Hid (bokB p n D m S nb X Y K V = true)) (hK : Hid (∀ i, i < nb → (K i : Int) ≤ 1048576)) (HB : Hid (RowPer w bs nb X Y K V)) :
    Calls Try.prog 65 #[.agg #[.slice bs nb bc], .agg #[.int .i64 p, .slice s n c, .slice t m d]] w fun e w' => ∃ g, e = .returned (.slice (some ⟨g, 0, none⟩) n n) ∧ OwnI w.heap.size w' (some ⟨g, 0, none⟩) n (cntP K V nb) ∧ g < w'.heap.size ∧ Below w.heap.size w w' := by
  obtain ⟨hN, nb20, hP⟩ := bok_yes HO.out
  obtain ⟨⟨p0, p1⟩, n40, -, -, -⟩ := net_yes hN
  have HF : Hid (∀ i, i < nb → risB (V i) (K i) = true ∧ ∀ r, r < K i → 0 ≤ V i r ∧ V i r ≤ (n : Int) - 1) := fun i hi => by
    have h1 := fm_yes (pm_yes (hP i hi)).1
    exact ⟨h1.2.2.1, h1.2.2.2⟩
  have n2 : (n : Int) ≤ 40 := by omega
  have b2 : (nb : Int) ≤ 20 := by omega
  have hmk := make_i64 n (by omega)
  clear hN hP
  go_enter Try.func65, Try.ntmps65
  go_upto_region 1 with fail
  obtain ⟨wd, hwd⟩ : ∃ wd, wd = (w.alloc (.cells #[.slice bs nb bc] 36)).alloc (.cells #[.int .i64 p, .slice s n c, .slice t m d] 41) := ⟨_, rfl⟩
  rw [← hwd]
  have B0 : Below w.heap.size w wd := by rw [hwd]; exact (by repeat (first | with_reducible exact Below.refl _ _ | with_reducible refine Below.setCell ?_ (by first | omega | (simp; done) | (simp; omega)) _ | with_reducible refine bDrewN ?_ _ | with_reducible refine Below.drew ?_ | with_reducible refine Below.alloc ?_ (by first | omega | (simp; done) | (simp; omega)) _))
  have q0 : wd.cell? ⟨w.heap.size, 0, none⟩ = some (.slice bs nb bc) := by rw [hwd]; simp [go_sem]
  have q1 : wd.cell? ⟨w.heap.size + 1, 1, none⟩ = some (.slice s n c) := by rw [hwd]; simp [go_sem]
  have zd : w.heap.size + 1 < wd.heap.size := by rw [hwd]; simp
  have zn : w.heap.size < wd.heap.size := by omega
  have HB0 : Hid (Below w.heap.size w wd) := B0
  have HL0 : Hid (OwnI wd.heap.size (wd.alloc (.cells (madeCells #[.int .i64 0] n) 2)) (some ⟨wd.heap.size, 0, none⟩) n (cntP K V 0)) := fun j hj => by
    obtain ⟨h1, h2, h3, h4⟩ := rowTo_start wd n (fun _ => 0) 2
    exact ⟨wd.heap.size, rfl, Nat.le_refl _, h2, by rw [h4 j hj]; simp [cntP], h3 j⟩
  clear hwd B0
  go_wp2_with fail
  clear q0 q1
  go_loopw [17] (fun i wr => ∃ k : Nat, k ≤ nb ∧ i = .int .i64 k ∧ Hid (OwnI wd.heap.size wr (some ⟨wd.heap.size, 0, none⟩) n (cntP K V k)) ∧ wd.heap.size < wr.heap.size ∧ Hid (Below wd.heap.size wd wr)) (fun i _ => nb - (intOf i).toNat)
  case atStart => exact ⟨0, Nat.zero_le _, rfl, HL0.out, by simp, (by show Below _ _ _; exact (by repeat (first | with_reducible exact Below.refl _ _ | with_reducible refine Below.setCell ?_ (by first | omega | (simp; done) | (simp; omega)) _ | with_reducible refine bDrewN ?_ _ | with_reducible refine Below.drew ?_ | with_reducible refine Below.alloc ?_ (by first | omega | (simp; done) | (simp; omega)) _)))⟩
  case round =>
    clear HL0
    obtain ⟨k, hk, rfl, HL, zr, HBr⟩ := hrel
    have HBw : Hid (Below w.heap.size w wr) := HB0.out.trans (HBr.out.mono HB0.out.size)
    by_cases h2 : k < nb
    · obtain ⟨g, o, a, e, rfl, hg, c0, c1, c2, hr⟩ := HB.out k h2
      replace c0 := (HBw.out.cell (p := ⟨g, o + k * 3, none⟩) hg).trans c0
      replace c1 := (HBw.out.cell (p := ⟨g, o + k * 3 + 1, none⟩) hg).trans c1
      replace c2 := (HBw.out.cell (p := ⟨g, o + k * 3 + 2, none⟩) hg).trans c2
      have zg : g < wr.heap.size := Nat.lt_of_lt_of_le hg HBw.out.size
      have k1 : (k : Int) < (nb : Int) := by omega
      have kk := hK.out k h2
      obtain ⟨hris, hin⟩ := HF.out k h2
      have HRS : Hid (risB (V k) (K k) = true) := hris
      have HIN : Hid (∀ r, r < K k → 0 ≤ V k r ∧ V k r ≤ (n : Int) - 1) := hin
      have HI : Hid (RowI w a (K k) (V k)) := hr
      have HEND : Hid (∀ v, tgI K V k (K k) v = cntP K V (k + 1) v) := fun v => rfl
      have HL1 : Hid (OwnI wd.heap.size wr (some ⟨wd.heap.size, 0, none⟩) n (tgI K V k 0)) := own_congrT HL.out (fun v => (tg_start K V k v).symm)
      obtain ⟨l, hl⟩ : ∃ l, K k = l := ⟨_, rfl⟩
      rw [hl] at c2 HI HRS HIN HEND kk
      clear hr hris hin hl hg HL
      go_upto_region 5 with fail
      obtain ⟨wa, hwa⟩ : ∃ wa, wa = wr.alloc (.cells #[.int .i64 (X k), .int .i64 (Y k), .slice a l e] 44) := ⟨_, rfl⟩
      rw [← hwa]
      have hb : Below wr.heap.size wr wa := by rw [hwa]; exact below0 _ _
      have v2 : wa.cell? ⟨wr.heap.size, 2, none⟩ = some (.slice a l e) := by rw [hwa]; simp [go_sem]
      have za : wr.heap.size < wa.heap.size := by rw [hwa]; simp
      have HL2 : Hid (OwnI wd.heap.size wa (some ⟨wd.heap.size, 0, none⟩) n (tgI K V k 0)) := HL1.out.below hb
      have HBa : Hid (Below wd.heap.size wd wa) := HBr.out.trans (hb.mono (by omega))
      have HBA : Hid (Below w.heap.size w wa) := HBw.out.trans (hb.mono HBw.out.size)
      have zra : wd.heap.size < wa.heap.size := by omega
      clear hwa hb c0 c1 c2 zg HL1
      go_wp2_with fail
      clear v2
      go_loopw [24] (fun i ws => ∃ r : Nat, r ≤ l ∧ i = .int .i64 r ∧ Hid (OwnI wd.heap.size ws (some ⟨wd.heap.size, 0, none⟩) n (tgI K V k r)) ∧ wd.heap.size < ws.heap.size ∧ Hid (Below wd.heap.size wd ws)) (fun i _ => l - (intOf i).toNat)
      case atStart => exact ⟨0, Nat.zero_le _, rfl, HL2.out, zra, HBa.out⟩
      case round =>
        clear HL2
        obtain ⟨r, hr, rfl, HLr, zs, HBs⟩ := hrel
        have HBS : Hid (Below w.heap.size w _) := HB0.out.trans (HBs.out.mono HB0.out.size)
        by_cases h3 : r < l
        · obtain ⟨ga, oa, rfl, hga, d0⟩ := HI.out r h3
          have d1 := (HBS.out.cell (p := ⟨ga, oa + r, none⟩) hga).trans d0
          have zga := Nat.lt_of_lt_of_le hga HBS.out.size
          obtain ⟨y0, y1⟩ := HIN.out r h3
          obtain ⟨x, hx⟩ : ∃ x : Nat, V k r = (x : Int) := ⟨(V k r).toNat, by omega⟩
          have HST : Hid (∀ v, tgI K V k (r + 1) v = if v = x then tgI K V k r x + 1 else tgI K V k r v) := tg_step HRS.out h3 hx
          rw [hx] at d1 y0 y1
          have xn : x < n := by omega
          have xi : (x : Int) < (n : Int) := by omega
          have r1 : (r : Int) < (l : Int) := by omega
          obtain ⟨b', e', -, zb, cx, fx⟩ := HLr.out x xn
          cases e'
          have cb := cntP_in K V k x
          have tb : 0 ≤ tgI K V k r x ∧ tgI K V k r x ≤ 21 := by unfold tgI; split <;> omega
          obtain ⟨q, hq⟩ : ∃ q, tgI K V k r x = q := ⟨_, rfl⟩
          rw [hq] at cx HST tb
          have HN := own_setT (F := tgI K V k (r + 1)) (q := x) (v := q + 1) HLr.out HST.out
          have HNH : Hid _ := HN
          have HBN : Hid _ := set_belowT (g := wd.heap.size) (o := x) (v := .int .i64 (q + 1)) HBs.out (Nat.le_refl _) (by omega)
          clear d0 hga hq hx HN cb
          go_wp2
          go_roundw
          case rel => exact ⟨r + 1, by omega, by go_num, HNH.out, by simpa using zs, HBN.out⟩
          case measure => first | (simp [intOf]; done) | (simp [intOf]; omega)
        · obtain rfl : r = l := by omega
          have HLE := own_congrT HLr.out HEND.out
          have HLEH : Hid _ := HLE
          clear HLE
          go_wp2
          go_roundw
          case rel => exact ⟨k + 1, by omega, by go_num, HLEH.out, zs, HBs.out⟩
          case measure => first | (simp [intOf]; done) | (simp [intOf]; omega)
    · obtain rfl : k = nb := by omega
      go_wp2
      go_ret
      exact ⟨_, rfl, HL.out.mono (by omega), zr, HBw.out⟩

open Go.ChangeShapes Go.WideShapes Go.ChangeAt Go.RowKit
set_option linter.unusedVariables false
set_option linter.unusedSimpArgs false

set_option maxHeartbeats 400000 in
theorem isNaNC (a : Int) (w : World) : Calls Try.prog 108 #[.int .i64 a] w fun e w' => e = .returned (.bool false) ∧ w' = w := by
  have h : (a != a) = false := bne_self_eq_false a
  go_enter Try.func108, Try.ntmps108
  go_wp2
  go_ret
  exact ⟨rfl, rfl⟩
set_option maxHeartbeats 400000 in
theorem isNaNS (a : Int) (w : World) : Calls Try.prog 92 #[.int .i64 a] w fun e w' => e = .returned (.bool false) ∧ w' = w := by
  have h : (a != a) = false := bne_self_eq_false a
  go_enter Try.func92, Try.ntmps92
  go_wp2
  go_ret
  exact ⟨rfl, rfl⟩
set_option maxHeartbeats 800000 in
theorem less_any (a b : Int) (w : World) : Calls Try.prog 91 #[.int .i64 a, .int .i64 b] w fun e w' => e = .returned (.bool (decide (a < b))) ∧ w' = w := by
  go_enter Try.func91, Try.ntmps91
  go_wp2_with fail
  refine (isNaNC a _).mono ?_
  rintro e w ⟨rfl, rfl⟩
  go_wp2
  go_ret
  exact ⟨rfl, rfl⟩
def BisPost (n : Nat) (V : Nat → Int) (x : Int) (e : Ending) : Prop := ∃ (k : Nat) (f : Bool), e = .returned (.tuple #[.int .i64 k, .bool f]) ∧ k ≤ n ∧ (∀ j, j < k → V j < x) ∧ (∀ j, k ≤ j → j < n → x ≤ V j) ∧ (f = true ↔ k < n ∧ V k = x)
set_option maxRecDepth 20000 in
set_option maxHeartbeats 4000000 in
theorem binSearch_any (s : Option Addr) (n c : Nat) (V : Nat → Int) (x : Int) (w : World) (hn : (n : Int) ≤ 1000000) (HV : Hid (∀ i j, i < j → j < n → V i < V j)) (HR : Hid (RowI w s n V)) :
    Calls Try.prog 53 #[.slice s n c, .int .i64 x] w fun e w' => BisPost n V x e ∧ w' = w := by
  go_enter Try.func53, Try.ntmps53
  go_wp2_with fail
  go_loopw [7, 8] (fun a b wx => ∃ l h : Nat, l ≤ h ∧ h ≤ n ∧ a = .int .i64 l ∧ b = .int .i64 h ∧ Hid (∀ j, j < l → V j < x) ∧ Hid (∀ j, h ≤ j → j < n → x ≤ V j) ∧ wx = w) (fun a b _ => (intOf b).toNat - (intOf a).toNat)
  case atStart => exact ⟨0, n, Nat.zero_le _, Nat.le_refl _, rfl, rfl, fun j hj => by omega, fun j a b => by omega, rfl⟩
  case round =>
    obtain ⟨l, h, hl, hh, rfl, rfl, H1, H2, rfl⟩ := hrel
    by_cases hlt : l < h
    case pos =>
      obtain ⟨z, hz⟩ : ∃ z : Nat, (l + h) / 2 = z := ⟨_, rfl⟩
      have z1 : l ≤ z := by omega
      have z2 : z < h := by omega
      have zn : z < n := by omega
      have lhi : (l : Int) < (h : Int) := by omega
      have zni : (z : Int) < (n : Int) := by omega
      have hz' : ((l : Int) + (h : Int)) / 2 = (z : Int) := by omega
      clear hz
      obtain ⟨g, o, rfl, zg, cg⟩ := HR.out z zn
      obtain ⟨y, hy⟩ : ∃ y, V z = y := ⟨_, rfl⟩
      have HY : Hid (V z = y) := hy
      rw [hy] at cg
      clear hy
      go_wp2_with fail
      refine (less_any y x _).mono ?_
      rintro e w2 ⟨rfl, rfl⟩
      by_cases q : y < x
      · have qd : decide (y < x) = true := decide_eq_true q
        have H3 : Hid (∀ j, j < z + 1 → V j < x) := fun j hj => by
          by_cases e : j = z
          · rw [e, HY.out]; exact q
          · have := HV.out j z (by omega) zn
            rw [HY.out] at this
            omega
        rw [qd]
        clear qd
        go_wp2
        go_roundw
        case rel => exact ⟨z + 1, h, by omega, hh, by go_num, rfl, H3, H2, by first | rfl | trivial⟩
        case measure => simp [intOf]; omega
      · have qd : decide (y < x) = false := decide_eq_false q
        have H3 : Hid (∀ j, z ≤ j → j < n → x ≤ V j) := fun j h1 h2 => by
          by_cases e : j = z
          · rw [e, HY.out]; omega
          · have := HV.out z j (by omega) h2
            rw [HY.out] at this
            omega
        rw [qd]
        clear qd
        go_wp2
        go_roundw
        case rel => exact ⟨l, z, by omega, by omega, rfl, by go_num, H1, H3, by first | rfl | trivial⟩
        case measure => simp [intOf]; omega
    case neg =>
      obtain rfl : l = h := by omega
      have lni : ¬ (l : Int) < (l : Int) := by omega
      by_cases q : l < n
      case neg =>
        have qn : ¬ (l : Int) < (n : Int) := by omega
        go_wp2
        refine bodyPost_ret (v := .tuple #[.int .i64 (l : Int), .bool false]) (by simp [results, Try.results53, go_sem]) rfl ?_
        exact ⟨⟨l, false, rfl, hh, H1.out, H2.out, ⟨fun z => (by cases z), fun z => absurd z.1 q⟩⟩, rfl⟩
      case pos =>
        have qi : (l : Int) < (n : Int) := by omega
        obtain ⟨g, o, rfl, zg, cg⟩ := HR.out l q
        obtain ⟨y, hy⟩ : ∃ y, V l = y := ⟨_, rfl⟩
        have HY : Hid (V l = y) := hy
        rw [hy] at cg
        clear hy
        by_cases e : y = x
        case pos =>
          have eb : (y == x) = true := by simp [e]
          go_wp2
          refine bodyPost_ret (v := .tuple #[.int .i64 (l : Int), .bool true]) (by simp [results, Try.results53, go_sem]) rfl ?_
          exact ⟨⟨l, true, rfl, hh, H1.out, H2.out, ⟨fun _ => ⟨q, by rw [HY.out]; exact e⟩, fun _ => rfl⟩⟩, rfl⟩
        case neg =>
          have eb : (y == x) = false := by simp [e]
          go_wp2_with fail
          refine (isNaNS y _).mono ?_
          rintro e w2 ⟨rfl, rfl⟩
          go_wp2
          refine bodyPost_ret (v := .tuple #[.int .i64 (l : Int), .bool false]) (by simp [results, Try.results53, go_sem]) rfl ?_
          exact ⟨⟨l, false, rfl, hh, H1.out, H2.out, ⟨fun z => (by cases z), fun z => absurd (by rw [← HY.out]; exact z.2) e⟩⟩, rfl⟩

open Go.ChangeShapes Go.WideShapes Go.ChangeAt Go.RowKit
set_option linter.unusedVariables false
set_option linter.unusedSimpArgs false

/-- What the last region reads. -/
def GbC (w : World) (gX gB gN g o : Nat) (xv bv v0 v1 v2 lv : Value) : Prop := w.cell? ⟨gX, 0, none⟩ = some xv ∧ gX < w.heap.size ∧ w.cell? ⟨gB, 0, none⟩ = some bv ∧ gB < w.heap.size ∧ w.cell? ⟨gN, 0, none⟩ = some v0 ∧ w.cell? ⟨gN, 1, none⟩ = some v1 ∧ w.cell? ⟨gN, 2, none⟩ = some v2 ∧ gN < w.heap.size ∧ w.cell? ⟨g, o, none⟩ = some lv ∧ g < w.heap.size
theorem GbC.below {w w' : World} {gX gB gN g o : Nat} {xv bv v0 v1 v2 lv : Value} (h : GbC w gX gB gN g o xv bv v0 v1 v2 lv) (hb : Below w.heap.size w w') : GbC w' gX gB gN g o xv bv v0 v1 v2 lv := by
  obtain ⟨h1, h2, h3, h4, h5, h6, h7, h8, h9, h10⟩ := h
  exact ⟨(hb.cell (p := ⟨gX, 0, none⟩) h2).trans h1, Nat.lt_of_lt_of_le h2 hb.size, (hb.cell (p := ⟨gB, 0, none⟩) h4).trans h3, Nat.lt_of_lt_of_le h4 hb.size, (hb.cell (p := ⟨gN, 0, none⟩) h8).trans h5, (hb.cell (p := ⟨gN, 1, none⟩) h8).trans h6, (hb.cell (p := ⟨gN, 2, none⟩) h8).trans h7, Nat.lt_of_lt_of_le h8 hb.size, (hb.cell (p := ⟨g, o, none⟩) h10).trans h9, Nat.lt_of_lt_of_le h10 hb.size⟩
theorem GbC.beside {w w' : World} {gX gB gN g o r : Nat} {xv bv v0 v1 v2 lv : Value} (h : GbC w gX gB gN g o xv bv v0 v1 v2 lv) (hb : Beside r w w') (r1 : gX ≠ r) (r2 : gB ≠ r) (r3 : gN ≠ r) (r4 : g ≠ r) : GbC w' gX gB gN g o xv bv v0 v1 v2 lv := by
  obtain ⟨h1, h2, h3, h4, h5, h6, h7, h8, h9, h10⟩ := h
  have z := hb.2.2.2.1
  exact ⟨(hb.cell (p := ⟨gX, 0, none⟩) h2 r1).trans h1, Nat.lt_of_lt_of_le h2 z, (hb.cell (p := ⟨gB, 0, none⟩) h4 r2).trans h3, Nat.lt_of_lt_of_le h4 z, (hb.cell (p := ⟨gN, 0, none⟩) h8 r3).trans h5, (hb.cell (p := ⟨gN, 1, none⟩) h8 r3).trans h6, (hb.cell (p := ⟨gN, 2, none⟩) h8 r3).trans h7, Nat.lt_of_lt_of_le h8 z, (hb.cell (p := ⟨g, o, none⟩) h10 r4).trans h9, Nat.lt_of_lt_of_le h10 z⟩
set_option maxRecDepth 20000 in
set_option maxHeartbeats 8000000 in
theorem implGiveBack_any (p : Int) (s : Option Addr) (n c : Nat) (D : Nat → Int × Int) (t : Option Addr) (m d : Nat) (S : Nat → Int) (bs : Option Addr) (nb bc : Nat) (X Y : Nat → Int) (K : Nat → Nat) (V : Nat → Nat → Int) (id : Int) (q : Nat) (w : World) (hn : (n : Int) ≤ 1048576) (hm : (m : Int) ≤ 1048576) (HD : Hid (RowDuct w s n D)) (HS : Hid (RowI w t m S)) (hb : (nb : Int) ≤ 1048576) (hc : nb ≤ bc) (hK : Hid (∀ i, i < nb → (K i : Int) ≤ 1048576)) (HB : Hid (RowPer w bs nb X Y K V)) (HQ : Hid (bokB p n D m S nb X Y K V = true → HitAt nb X id q)) :
    Calls Try.prog 25 #[.agg #[.int .i64 p, .slice s n c, .slice t m d], .agg #[.slice bs nb bc], .int .i64 id] w fun e w' => GbAns p n D m S nb X Y K V q w e w' := by
  go_enter Try.func25, Try.ntmps25
  go_upto_region 1 with fail
  obtain ⟨wa, hwa⟩ : ∃ z, z = w.alloc (.cells #[.int .i64 p, .slice s n c, .slice t m d] 41) := ⟨_, rfl⟩
  obtain ⟨wb, hwb⟩ : ∃ z, z = wa.alloc (.cells #[.slice bs nb bc] 36) := ⟨_, rfl⟩
  obtain ⟨wd, hwd⟩ : ∃ z, z = wb.alloc (.cells #[.slice none 0 0] 36) := ⟨_, rfl⟩
  have ba : Below w.heap.size w wa := by rw [hwa]; exact below0 _ _
  have bb : Below wa.heap.size wa wb := by rw [hwb]; exact below0 _ _
  have bd : Below wb.heap.size wb wd := by rw [hwd]; exact below0 _ _
  obtain ⟨gN, hgN⟩ : ∃ z, z = w.heap.size := ⟨_, rfl⟩
  obtain ⟨gB, hgB⟩ : ∃ z, z = wa.heap.size := ⟨_, rfl⟩
  obtain ⟨gU, hgU⟩ : ∃ z, z = wb.heap.size := ⟨_, rfl⟩
  have sa : wa.heap.size = w.heap.size + 1 := by rw [hwa]; simp
  have sb : wb.heap.size = w.heap.size + 1 + 1 := by rw [hwb]; simp; omega
  have sd : wd.heap.size = w.heap.size + 3 := by rw [hwd]; simp; omega
  have hgB1 : w.heap.size + 1 = gB := by omega
  have hgU1 : w.heap.size + 1 + 1 = gU := by omega
  have HN : Hid (Blk wd gN [.int .i64 p, .slice s n c, .slice t m d]) := by rw [hgN]; exact ((by rw [hwa]; exact Blk.new w #[.int .i64 p, .slice s n c, .slice t m d] _ : Blk wa w.heap.size [.int .i64 p, .slice s n c, .slice t m d]).below bb).below bd
  have HBk : Hid (Blk wd gB [.slice bs nb bc]) := by rw [hgB]; exact (by rw [hwb]; exact Blk.new wa #[.slice bs nb bc] _ : Blk wb wa.heap.size [.slice bs nb bc]).below bd
  have HU : Hid (Blk wd gU [.slice none 0 0]) := by rw [hgU, hwd]; exact Blk.new wb #[.slice none 0 0] _
  have HBd : Hid (Below w.heap.size w wd) := ba.trans ((bb.trans (bd.mono bb.size)).mono ba.size)
  have zz : w.heap.size ≤ gN ∧ gN < gB ∧ gB < gU ∧ gU < wd.heap.size := by omega
  try rw [← hwa]
  try rw [← hwb]
  try rw [← hwd]
  try rw [hgU1]
  try rw [hgB1]
  try rw [← hgU]
  try rw [← hgB]
  try rw [← hgN]
  clear hwa hwb hwd ba bb bd hgN hgB hgU sa sb sd hgB1 hgU1
  obtain ⟨z1, z2, z3, z4⟩ := zz
  have HDd : Hid (RowDuct wd s n D) := HD.out.below HBd.out
  have HSd : Hid (RowI wd t m S) := HS.out.below HBd.out
  have HPd : Hid (RowPer wd bs nb X Y K V) := HB.out.below HBd.out
  obtain ⟨zN, -, cN⟩ := HN.out
  have n0 := cN 0 _ rfl
  have n1 := cN 1 _ rfl
  have n2 := cN 2 _ rfl
  obtain ⟨zB, -, cB⟩ := HBk.out
  have b0 := cB 0 _ rfl
  clear cN cB
  go_wp2_with fail
  refine (implBookOk_any p s n c D t m d S bs nb bc X Y K V _ hn hm HDd HSd hb hc hK HPd).mono ?_
  rintro e w1 ⟨rfl, h1⟩
  clear n0 n1 n2 zN zB b0
  replace HN : Hid (Blk w1 gN [.int .i64 p, .slice s n c, .slice t m d]) := HN.out.below h1
  replace HBk : Hid (Blk w1 gB [.slice bs nb bc]) := HBk.out.below h1
  replace HU : Hid (Blk w1 gU [.slice none 0 0]) := HU.out.below h1
  have HP1 : Hid (RowPer w1 bs nb X Y K V) := HPd.out.below h1
  have HB1 : Hid (Below w.heap.size w w1) := HBd.out.trans (h1.mono HBd.out.size)
  have y4 : gU < w1.heap.size := Nat.lt_of_lt_of_le z4 h1.size
  clear h1 HDd HSd HPd HBd z4
  obtain ⟨zU, fU, cU⟩ := HU.out
  have u0 := cU 0 _ rfl
  have uf := fU 0
  clear fU cU
  have hst := store_slT
  obtain ⟨ok, hok⟩ : ∃ ok, bokB p n D m S nb X Y K V = ok := ⟨_, rfl⟩
  have HOK : Hid (bokB p n D m S nb X Y K V = ok) := hok
  rw [hok]
  clear hok
  cases ok
  case false =>
    have HBu : Hid (Below w.heap.size w (w1.setCell ⟨gU, 0, none⟩ (.slice none 0 0))) := HB1.out.trans ((Beside.setCell gU w1 0 _).below (by omega) HB1.out.size)
    go_wp2
    refine bodyPost_ret (v := .tuple #[.agg #[.slice none 0 0], .slice none 0 0, .int .i64 1]) (by simp [results, Try.results25, go_sem, u0]) rfl ?_
    refine GbAns.bad HOK.out ?_
    exact ⟨none, 0, none, 0, fun _ => False, fun _ => False, rfl, fun k hk => hk.elim, no_book _ _ _ _ _ _, fun k hk => hk.elim, no_ints _ _ _, fun k hk => hk.elim, HBu.out⟩
  case true =>
    replace HQ : Hid (HitAt nb X id q) := HQ.out HOK.out
    obtain ⟨n40, nb20, hin⟩ := bok_in HOK.out
    have HIN : Hid (∀ i, i < nb → (K i : Int) ≤ 40 ∧ risB (V i) (K i) = true ∧ ∀ j, j < K i → 0 ≤ V i j ∧ V i j < (n : Int)) := hin
    have HRI : Hid (∀ i j, i < j → j < nb → X i < X j) := bok_rises HOK.out
    obtain ⟨zB, -, cB⟩ := HBk.out
    have b0 := cB 0 _ rfl
    clear hin cB
    go_wp2_with fail
    refine (bookCopied_any bs nb bc X Y K V _ hb hK HP1).mono ?_
    rintro e w2 ⟨b, rfl, hb1, hpc, h2⟩
    have HB2 : Hid (Below w.heap.size w w2) := HB1.out.trans (h2.mono HB1.out.size)
    have HPC : Hid (PcK b w2 nb nb X Y K V) := hpc
    have zb : gU < b := by omega
    replace HN : Hid (Blk w2 gN [.int .i64 p, .slice s n c, .slice t m d]) := HN.out.below h2
    replace HBk : Hid (Blk w2 gB [.slice bs nb bc]) := HBk.out.below h2
    replace HU : Hid (Blk w2 gU [.slice none 0 0]) := HU.out.below h2
    have HP2 : Hid (RowPer w2 bs nb X Y K V) := HP1.out.below h2
    have zb2 : b < w2.heap.size := hpc.1
    clear h2 hpc hb1 zB b0 HP1 u0 uf zU
    go_upto_region 4 with fail
    obtain ⟨w3, hw3⟩ : ∃ z, z = w2.alloc (.cells #[.slice (some ⟨b, 0, none⟩) nb nb] 36) := ⟨_, rfl⟩
    try rw [← hw3]
    have b3 : Below w2.heap.size w2 w3 := by rw [hw3]; exact below0 _ _
    obtain ⟨gX, hgX⟩ : ∃ z, z = w2.heap.size := ⟨_, rfl⟩
    have HXb : Hid (Blk w3 gX [.slice (some ⟨b, 0, none⟩) nb nb]) := by rw [hw3, hgX]; exact Blk.new w2 #[.slice (some ⟨b, 0, none⟩) nb nb] _
    have HIX : Hid (∀ (i : Nat) (a : Addr) (k' c : Nat), i < nb → w3.cell? ⟨b, i * 3 + 2, none⟩ = some (.slice (some a) k' c) → 0 < k' → a.block < gX) := fun i a k' c hi hc hk => by
      rw [b3.cell (p := ⟨b, i * 3 + 2, none⟩) zb2] at hc
      rw [hgX]
      exact HPC.out.inner i a k' c hi hc hk
    replace HN : Hid (Blk w3 gN [.int .i64 p, .slice s n c, .slice t m d]) := HN.out.below b3
    replace HBk : Hid (Blk w3 gB [.slice bs nb bc]) := HBk.out.below b3
    replace HU : Hid (Blk w3 gU [.slice none 0 0]) := HU.out.below b3
    replace HPC : Hid (PcK b w3 nb nb X Y K V) := HPC.out.below b3
    have HP3 : Hid (RowPer w3 bs nb X Y K V) := HP2.out.below b3
    have HB3 : Hid (Below w.heap.size w w3) := HB2.out.trans (b3.mono HB2.out.size)
    have zx : b < gX := by omega
    have zwb : w.heap.size ≤ b := by omega
    try rw [← hgX]
    clear hw3 b3 hgX HP2 HB2 HB1 y4 zb2
    obtain ⟨zB, -, cB⟩ := HBk.out
    have b0 := cB 0 _ rfl
    clear cB
    have nb20i : (nb : Int) ≤ 20 := by omega
    go_wp2_with fail
    refine (ids_any bs nb bc X Y K V _ hb HP3).mono ?_
    rintro e w4 ⟨gi, rfl, hri, h4⟩
    have HRi : Hid (RowI w4 (some ⟨gi, 0, none⟩) nb X) := hri
    replace HN : Hid (Blk w4 gN [.int .i64 p, .slice s n c, .slice t m d]) := HN.out.below h4
    replace HBk : Hid (Blk w4 gB [.slice bs nb bc]) := HBk.out.below h4
    replace HU : Hid (Blk w4 gU [.slice none 0 0]) := HU.out.below h4
    replace HXb : Hid (Blk w4 gX [.slice (some ⟨b, 0, none⟩) nb nb]) := HXb.out.below h4
    replace HIX : Hid (∀ (i : Nat) (a : Addr) (k' c : Nat), i < nb → w4.cell? ⟨b, i * 3 + 2, none⟩ = some (.slice (some a) k' c) → 0 < k' → a.block < gX) := fun i a k' c hi hc hk => HIX.out i a k' c hi ((h4.cell (p := ⟨b, i * 3 + 2, none⟩) HPC.out.1).symm.trans hc) hk
    replace HPC : Hid (PcK b w4 nb nb X Y K V) := HPC.out.below h4
    have HP4 : Hid (RowPer w4 bs nb X Y K V) := HP3.out.below h4
    have HB4 : Hid (Below w.heap.size w w4) := HB3.out.trans (h4.mono HB3.out.size)
    clear h4 hri HP3 HB3 b0 zB
    go_wp2_with fail
    refine (binSearch_any (some ⟨gi, 0, none⟩) nb nb X id _ (by omega) HRI HRi).mono ?_
    rintro e w4' ⟨⟨k, f, rfl, hk, hlo, hhi, hf⟩, rfl⟩
    rename World => w4
    clear HRi
    by_cases hq : q < nb
    case neg =>
      have hqe : q = nb := by have := HQ.out.1; omega
      have hf0 : f = false := hit_no (by rw [← hqe]; exact hqe ▸ HQ.out) hf
      clear hf hlo hhi
      subst hf0
      clear hqe
      have HPK : Hid (PerR (fun k => w.heap.size ≤ k ∧ k < w4.heap.size) w4 (some ⟨b, 0, none⟩) nb X Y K V) := HPC.out.perK zwb
      obtain ⟨zU, fU, cU⟩ := HU.out
      have u0 := cU 0 _ rfl
      have uf := fU 0
      have x0 := HXb.out.2.2 0 _ rfl
      have xz := HXb.out.1
      have bsU : Beside gU w4 (w4.setCell ⟨gU, 0, none⟩ (.slice (some ⟨b, 0, none⟩) nb nb)) := Beside.setCell gU _ 0 _
      have HP6 : Hid (PcK b (w4.setCell ⟨gU, 0, none⟩ (.slice (some ⟨b, 0, none⟩) nb nb)) nb nb X Y K V) := HPC.out.beside bsU zb
      have HW6 : Hid (Below w.heap.size w (w4.setCell ⟨gU, 0, none⟩ (.slice (some ⟨b, 0, none⟩) nb nb))) := HB4.out.trans (bsU.below (by omega) HB4.out.size)
      clear bsU cU fU
      go_wp2
      refine bodyPost_ret (v := .tuple #[.agg #[.slice (some ⟨b, 0, none⟩) nb nb], .slice none 0 0, .int .i64 7]) (by simp [results, Try.results25, go_sem, u0]) rfl ?_
      refine GbAns.none HOK.out hq ?_
      exact ⟨_, nb, none, 0, _, fun _ => False, rfl, fun k hk => hk, HP6.out.perK zwb, fun k hk => hk.elim, no_ints _ _ _, fun k _ h => h, HW6.out⟩
    case pos =>
      obtain ⟨hf1, hkq⟩ := hit_yes HQ.out hk hlo hhi hf hq HRI.out
      clear hf hlo hhi hk
      subst hf1
      subst hkq
      obtain ⟨r, hr⟩ : ∃ r, r = k + 1 := ⟨_, rfl⟩
      have wr1 : IntKind.i64.wrap ((k : Int) + 1) = (r : Int) := by rw [IntKind.wrap_i64]; omega
      have kr : (k : Int) + 1 = (r : Int) := by omega
      have x0 := HXb.out.2.2 0 _ rfl
      have xf := HXb.out.2.1 0
      have xz := HXb.out.1
      have HRR : Hid (r = k + 1) := hr
      clear hr
      go_wp2_with fail
      try rw [kr]
      refine (delete_any b nb k r X Y K V _ (by omega) hq HRR.out HPC).mono ?_
      rintro e w5 ⟨⟨m1, rfl, hm1⟩, ⟨hpc, hce⟩, h5⟩
      have HM : Hid (nb - 1 = m1) := hm1.symm
      have m20 : m1 ≤ 20 := by omega
      have mnb : m1 ≤ nb := by omega
      clear x0 xf xz kr wr1
      replace HN : Hid (Blk w5 gN [.int .i64 p, .slice s n c, .slice t m d]) := HN.out.beside h5 (by omega)
      replace HBk : Hid (Blk w5 gB [.slice bs nb bc]) := HBk.out.beside h5 (by omega)
      replace HU : Hid (Blk w5 gU [.slice none 0 0]) := HU.out.beside h5 (by omega)
      replace HXb : Hid (Blk w5 gX [.slice (some ⟨b, 0, none⟩) nb nb]) := HXb.out.beside h5 (by omega)
      have HB5 : Hid (Below w.heap.size w w5) := HB4.out.trans (h5.below zwb HB4.out.size)
      have HNX : Hid (∀ (i : Nat) (a : Addr) (k' c : Nat), i < m1 → w5.cell? ⟨b, i * 3 + 2, none⟩ = some (.slice (some a) k' c) → 0 < k' → a.block ≠ gX) := fun i a k' c hi hc hk => by
        have hs : sk k i < nb := by unfold sk; split <;> omega
        have t_ := HIX.out (sk k i) a k' c hs ((hce i (by omega)).symm.trans hc) hk
        omega
      have HPC5 : Hid (PcK b w5 nb m1 (fun i => X (sk k i)) (fun i => Y (sk k i)) (fun i => K (sk k i)) (fun i => V (sk k i))) := by show PcK _ _ _ _ _ _ _ _; rw [hm1]; exact hpc
      have x0 := HXb.out.2.2 0 _ rfl
      have xf := HXb.out.2.1 0
      have xz := HXb.out.1
      have hst := store_slT
      clear hce hpc h5 hm1 HPC HIX HB4 HP4
      go_upto_region 8 with fail
      obtain ⟨w6, hw6⟩ : ∃ z, z = w5.setCell ⟨gX, 0, none⟩ (.slice (some ⟨b, 0, none⟩) m1 nb) := ⟨_, rfl⟩
      try rw [← hw6]
      have bs6 : Beside gX w5 w6 := by rw [hw6]; exact Beside.setCell gX _ 0 _
      have HX6 : Hid (Blk w6 gX [.slice (some ⟨b, 0, none⟩) m1 nb]) := by rw [hw6]; exact HXb.out.set 0 _
      have HPC6 : Hid (PcK b w6 nb m1 (fun i => X (sk k i)) (fun i => Y (sk k i)) (fun i => K (sk k i)) (fun i => V (sk k i))) := HPC5.out.besideH bs6 (by omega) HNX.out
      replace HN : Hid (Blk w6 gN [.int .i64 p, .slice s n c, .slice t m d]) := HN.out.beside bs6 (by omega)
      replace HBk : Hid (Blk w6 gB [.slice bs nb bc]) := HBk.out.beside bs6 (by omega)
      replace HU : Hid (Blk w6 gU [.slice none 0 0]) := HU.out.beside bs6 (by omega)
      have HB6 : Hid (Below w.heap.size w w6) := HB5.out.trans (bs6.below (by omega) HB5.out.size)
      clear hw6 bs6 x0 xf xz hst HXb HPC5 HNX HB5
      obtain ⟨g, o, a, e, rfl, hg, c0, c1, c2, ha⟩ := HB.out k hq
      have hgw : g < w.heap.size := hg
      obtain ⟨kq, hkq⟩ : ∃ kq, K k = kq := ⟨_, rfl⟩
      have HKQ : Hid (K k = kq) := hkq
      rw [hkq] at c2
      have HRA : Hid (RowI w6 a kq (V k)) := by rw [hkq] at ha; exact ha.below HB6.out
      have kq40 : (kq : Int) ≤ 40 := by rw [← hkq]; exact (HIN.out k hq).1
      have HVQ : Hid (∀ j, j < kq → 0 ≤ V k j ∧ V k j < (n : Int)) := by have z_ := (HIN.out k hq).2.2; rw [hkq] at z_; exact z_
      have HOS : Hid (bokB p n D m S m1 (fun i => X (sk k i)) (fun i => Y (sk k i)) (fun i => K (sk k i)) (fun i => V (sk k i)) = true) := by have z_ := bok_sk (q := k) HOK.out; rw [HM.out] at z_; exact z_
      have HKS : Hid (∀ i, i < m1 → ((fun i => K (sk k i)) i : Int) ≤ 1048576) := fun i hi => by
        have hs : sk k i < nb := by have := HM.out; unfold sk; split <;> omega
        have := (HIN.out (sk k i) hs).1
        show (K (sk k i) : Int) ≤ 1048576
        omega
      have HAC : Hid (GbC w6 gX gB gN g (o + k * 3 + 2) (.slice (some ⟨b, 0, none⟩) m1 nb) (.slice (some ⟨g, o, none⟩) nb bc) (.int .i64 p) (.slice s n c) (.slice t m d) (.slice a kq e)) := ⟨HX6.out.2.2 0 _ rfl, HX6.out.1, HBk.out.2.2 0 _ rfl, HBk.out.1, HN.out.2.2 0 _ rfl, HN.out.2.2 1 _ rfl, HN.out.2.2 2 _ rfl, HN.out.1, (HB6.out.cell (p := ⟨g, o + k * 3 + 2, none⟩) hg).trans c2, Nat.lt_of_lt_of_le hg HB6.out.size⟩
      have kni : (k : Int) < (nb : Int) := by omega
      have n1000 : (n : Int) ≤ 1000 := by omega
      clear c0 c1 c2 ha hkq hg HX6 HN HBk
      refine wp_region_held_drew (S := fun w' => GbC w' gX gB gN g (o + k * 3 + 2) (.slice (some ⟨b, 0, none⟩) m1 nb) (.slice (some ⟨g, o, none⟩) nb bc) (.int .i64 p) (.slice s n c) (.slice t m d) (.slice a kq e)) (by kernel_rfl) ?_ (fun hHeld => ?_)
      · exact HAC.out
      obtain ⟨v0, hv0⟩ : ∃ z, z = w6.drew := ⟨_, rfl⟩
      try rw [← hv0] at hHeld
      rw [← hv0]
      have bv0 : Below w6.heap.size w6 v0 := by rw [hv0]; exact Below.drew (Below.refl _ _)
      clear hv0
      have HAC0 : Hid (GbC v0 gX gB gN g (o + k * 3 + 2) (.slice (some ⟨b, 0, none⟩) m1 nb) (.slice (some ⟨g, o, none⟩) nb bc) (.int .i64 p) (.slice s n c) (.slice t m d) (.slice a kq e)) := HAC.out.below bv0
      have HB0 : Hid (Below w.heap.size w v0) := HB6.out.trans (bv0.mono HB6.out.size)
      have HU0 : Hid (Blk v0 gU [.slice none 0 0]) := HU.out.below bv0
      have HPC0 : Hid (PcK b v0 nb m1 (fun i => X (sk k i)) (fun i => Y (sk k i)) (fun i => K (sk k i)) (fun i => V (sk k i))) := HPC6.out.below bv0
      have HRA0 : Hid (RowI v0 a kq (V k)) := HRA.out.below bv0
      have HRP0 : Hid (RowPer v0 (some ⟨b, 0, none⟩) m1 (fun i => X (sk k i)) (fun i => Y (sk k i)) (fun i => K (sk k i)) (fun i => V (sk k i))) := (HPC0.out.perK (Nat.le_refl b)).row
      clear bv0 HAC HB6 HU HPC6 HRA
      refine wpAnyH_take (i := 0) (v := .agg #[.slice (some ⟨b, 0, none⟩) m1 nb]) rfl (by kernel_rfl) (by kernel_rfl) (by kernel_rfl) (fun _ _ _ h => h) (Or.inl ⟨by kernel_rfl, ?_⟩) hHeld ?_
      · intro w' hSw
        obtain ⟨hx0, hxz, hb0, hbz, hn0, hn1, hn2, hnz, hc0, hcz⟩ := hSw
        first | (go_simp; done) | (go_simp; with_reducible rfl) | (go_simp; rw [IntKind.wrap_i64]; omega) | (go_simp; omega)
      simp only [Act.put, List.setIfInBounds_toArray, List.set_cons_zero, List.set_cons_succ]
      refine wpAnyH_take (i := 1) (v := .pointer (some ⟨gB, 0, none⟩)) rfl (by kernel_rfl) (by kernel_rfl) (by kernel_rfl) (fun _ _ _ h => h) (Or.inl ⟨by kernel_rfl, ?_⟩) hHeld ?_
      · intro w' hSw
        obtain ⟨hx0, hxz, hb0, hbz, hn0, hn1, hn2, hnz, hc0, hcz⟩ := hSw
        first | (go_simp; done) | (go_simp; with_reducible rfl) | (go_simp; rw [IntKind.wrap_i64]; omega) | (go_simp; omega)
      simp only [Act.put, List.setIfInBounds_toArray, List.set_cons_zero, List.set_cons_succ]
      refine wpAnyH_take (i := 2) (v := .slice (some ⟨g, o, none⟩) nb bc) rfl (by kernel_rfl) (by kernel_rfl) (by kernel_rfl) (fun _ _ _ h => h) (Or.inl ⟨by kernel_rfl, ?_⟩) hHeld ?_
      · intro w' hSw
        obtain ⟨hx0, hxz, hb0, hbz, hn0, hn1, hn2, hnz, hc0, hcz⟩ := hSw
        first | (go_simp; done) | (go_simp; with_reducible rfl) | (go_simp; rw [IntKind.wrap_i64]; omega) | (go_simp; omega)
      simp only [Act.put, List.setIfInBounds_toArray, List.set_cons_zero, List.set_cons_succ]
      refine wpAnyH_take (i := 3) (v := .int .i64 (k : Int)) rfl (by kernel_rfl) (by kernel_rfl) (by kernel_rfl) (fun _ _ _ h => h) (Or.inl ⟨by kernel_rfl, ?_⟩) hHeld ?_
      · intro w' hSw
        obtain ⟨hx0, hxz, hb0, hbz, hn0, hn1, hn2, hnz, hc0, hcz⟩ := hSw
        first | (go_simp; done) | (go_simp; with_reducible rfl) | (go_simp; rw [IntKind.wrap_i64]; omega) | (go_simp; omega)
      simp only [Act.put, List.setIfInBounds_toArray, List.set_cons_zero, List.set_cons_succ]
      refine wpAnyH_take (i := 4) (v := .pointer (some ⟨g, o + k * 3, none⟩)) rfl (by kernel_rfl) (by kernel_rfl) (by kernel_rfl) (fun _ _ _ h => h) (Or.inl ⟨by kernel_rfl, ?_⟩) hHeld ?_
      · intro w' hSw
        obtain ⟨hx0, hxz, hb0, hbz, hn0, hn1, hn2, hnz, hc0, hcz⟩ := hSw
        first | (go_simp; done) | (go_simp; with_reducible rfl) | (go_simp; rw [IntKind.wrap_i64]; omega) | (go_simp; omega)
      simp only [Act.put, List.setIfInBounds_toArray, List.set_cons_zero, List.set_cons_succ]
      refine wpAnyH_take (i := 5) (v := .pointer (some ⟨g, o + k * 3 + 2, none⟩)) rfl (by kernel_rfl) (by kernel_rfl) (by kernel_rfl) (fun _ _ _ h => h) (Or.inl ⟨by kernel_rfl, ?_⟩) hHeld ?_
      · intro w' hSw
        obtain ⟨hx0, hxz, hb0, hbz, hn0, hn1, hn2, hnz, hc0, hcz⟩ := hSw
        first | (go_simp; done) | (go_simp; with_reducible rfl) | (go_simp; rw [IntKind.wrap_i64]; omega) | (go_simp; omega)
      simp only [Act.put, List.setIfInBounds_toArray, List.set_cons_zero, List.set_cons_succ]
      refine wpAnyH_take (i := 6) (v := .slice a kq e) rfl (by kernel_rfl) (by kernel_rfl) (by kernel_rfl) (fun _ _ _ h => h) (Or.inl ⟨by kernel_rfl, ?_⟩) hHeld ?_
      · intro w' hSw
        obtain ⟨hx0, hxz, hb0, hbz, hn0, hn1, hn2, hnz, hc0, hcz⟩ := hSw
        first | (go_simp; done) | (go_simp; with_reducible rfl) | (go_simp; rw [IntKind.wrap_i64]; omega) | (go_simp; omega)
      simp only [Act.put, List.setIfInBounds_toArray, List.set_cons_zero, List.set_cons_succ]
      refine wpAnyH_take (i := 7) (v := .agg #[.slice (some ⟨b, 0, none⟩) m1 nb]) rfl (by kernel_rfl) (by kernel_rfl) (by kernel_rfl) (fun _ _ _ h => h) (Or.inl ⟨by kernel_rfl, ?_⟩) hHeld ?_
      · intro w' hSw
        obtain ⟨hx0, hxz, hb0, hbz, hn0, hn1, hn2, hnz, hc0, hcz⟩ := hSw
        first | (go_simp; done) | (go_simp; with_reducible rfl) | (go_simp; rw [IntKind.wrap_i64]; omega) | (go_simp; omega)
      simp only [Act.put, List.setIfInBounds_toArray, List.set_cons_zero, List.set_cons_succ]
      refine wpAnyH_take (i := 8) (v := .agg #[.int .i64 p, .slice s n c, .slice t m d]) rfl (by kernel_rfl) (by kernel_rfl) (by kernel_rfl) (fun _ _ _ h => h) (Or.inl ⟨by kernel_rfl, ?_⟩) hHeld ?_
      · intro w' hSw
        obtain ⟨hx0, hxz, hb0, hbz, hn0, hn1, hn2, hnz, hc0, hcz⟩ := hSw
        first | (go_simp; done) | (go_simp; with_reducible rfl) | (go_simp; rw [IntKind.wrap_i64]; omega) | (go_simp; omega)
      simp only [Act.put, List.setIfInBounds_toArray, List.set_cons_zero, List.set_cons_succ]
      refine wpAnyH_ready (rs := [9]) (by kernel_rfl) (by simp) ?_
      refine (AllReadyH.cons rfl (fun KK hK => ?_) AllReadyH.nil)
      go_simp
      go_wp2_with (first | (go_at_call 65; refine (tags_any (some ⟨b, 0, none⟩) m1 nb (fun i => X (sk k i)) (fun i => Y (sk k i)) (fun i => K (sk k i)) (fun i => V (sk k i)) p s n c D t m d S _ HOS HKS HRP0).mono ?_; rintro e v0_1 ⟨gt, rfl, O_, zt_, b_⟩))
      have HT1 : Hid (RowI v0_1 (some ⟨gt, 0, none⟩) n (cntP (fun i => K (sk k i)) (fun i => V (sk k i)) m1)) := O_.row
      have HAC1 : Hid (GbC v0_1 gX gB gN g (o + k * 3 + 2) (.slice (some ⟨b, 0, none⟩) m1 nb) (.slice (some ⟨g, o, none⟩) nb bc) (.int .i64 p) (.slice s n c) (.slice t m d) (.slice a kq e)) := HAC0.out.below b_
      have HB1 : Hid (Below w.heap.size w v0_1) := HB0.out.trans (b_.mono HB0.out.size)
      have HU1 : Hid (Blk v0_1 gU [.slice none 0 0]) := HU0.out.below b_
      have HPC1 : Hid (PcK b v0_1 nb m1 (fun i => X (sk k i)) (fun i => Y (sk k i)) (fun i => K (sk k i)) (fun i => V (sk k i))) := HPC0.out.below b_
      have HRA1 : Hid (RowI v0_1 a kq (V k)) := HRA0.out.below b_
      clear O_ zt_ b_ HAC0 HB0 HU0 HPC0 HRA0 HRP0
      refine hK.out _ _ (HAC1.out) (fun hHeld => ?_)
      clear hK KK
      refine wpAnyH_ready (rs := [10]) (by kernel_rfl) (by simp) ?_
      refine (AllReadyH.cons rfl (fun KK hK => ?_) AllReadyH.nil)
      go_simp
      go_wp2_with (first | (go_at_call 64; refine (untagged_any a (some ⟨gt, 0, none⟩) kq e n n (V k) (cntP (fun i => K (sk k i)) (fun i => V (sk k i)) m1) _ (by omega) n1000 HVQ HRA1 HT1).mono ?_; rintro e v0_2 ⟨vL, rfl, O_, b_⟩))
      obtain ⟨Lj, hLj⟩ : ∃ L, freL (V k) (cntP (fun i => K (sk k i)) (fun i => V (sk k i)) m1) kq = L := ⟨_, rfl⟩
      rw [hLj] at O_
      obtain ⟨sL, cL, eL, oL⟩ := O_.own
      subst eL
      have HLJ : Hid (freL (V k) (cntP (fun i => K (sk k i)) (fun i => V (sk k i)) m1) kq = Lj) := hLj
      have HAC2 : Hid (GbC v0_2 gX gB gN g (o + k * 3 + 2) (.slice (some ⟨b, 0, none⟩) m1 nb) (.slice (some ⟨g, o, none⟩) nb bc) (.int .i64 p) (.slice s n c) (.slice t m d) (.slice a kq e)) := HAC1.out.below b_
      have HB2 : Hid (Below w.heap.size w v0_2) := HB1.out.trans (b_.mono HB1.out.size)
      have HU2 : Hid (Blk v0_2 gU [.slice none 0 0]) := HU1.out.below b_
      have HPK2 : Hid (PerR (fun k => b ≤ k ∧ k < v0_1.heap.size) v0_2 (some ⟨b, 0, none⟩) m1 (fun i => X (sk k i)) (fun i => Y (sk k i)) (fun i => K (sk k i)) (fun i => V (sk k i))) := (HPC1.out.perK (Nat.le_refl b)).below b_
      have HL2 : Hid (I64R (fun k => v0_1.heap.size ≤ k ∧ k < v0_2.heap.size) v0_2 sL Lj.length (nthI Lj)) := I64R.of oL
      have q1 : w.heap.size ≤ v0_1.heap.size := HB1.out.size
      have q2 : v0_1.heap.size ≤ v0_2.heap.size := b_.size
      have q3 : gU < v0_1.heap.size := HU1.out.1
      have HSZ : Hid (v0_2.heap.size = v0_2.heap.size) := rfl
      clear O_ oL b_ hLj HAC1 HB1 HU1 HPC1 HRA1 HT1
      refine hK.out _ _ (HAC2.out) (fun hHeld => ?_)
      clear hK KK
      refine wpAnyH_ready (rs := [11]) (by kernel_rfl) (by simp) ?_
      refine (AllReadyH.cons rfl (fun KK hK => ?_) AllReadyH.nil)
      have hl_ := HU2.out.2.2 0 _ rfl
      have hf_ := HU2.out.2.1 0
      have hg_ := HU2.out.1
      have hst := store_slT
      go_simp
      obtain ⟨v0_3, hv_⟩ : ∃ z, z = v0_2.setCell ⟨gU, 0, none⟩ (.slice (some ⟨b, 0, none⟩) m1 nb) := ⟨_, rfl⟩
      rw [← hv_]
      have bs_ : Beside gU v0_2 v0_3 := by rw [hv_]; exact Beside.setCell gU _ _ _
      have HU3 : Hid (Blk v0_3 gU [.slice (some ⟨b, 0, none⟩) m1 nb]) := by rw [hv_]; exact HU2.out.set 0 _
      have HPK3 := HPK2.out.keep (w' := v0_3) bs_.2.2.2.1 (fun k hk hl => bs_.2.2.2.2 k hl (fun z => Nat.lt_irrefl _ (Nat.lt_of_lt_of_le (z ▸ zb) hk.1)))
      have HL3 := HL2.out.keep (w' := v0_3) bs_.2.2.2.1 (fun k hk hl => bs_.2.2.2.2 k hl (fun z => Nat.lt_irrefl _ (Nat.lt_of_lt_of_le (z ▸ q3) hk.1)))
      have HAC3 : Hid (GbC v0_3 gX gB gN g (o + k * 3 + 2) (.slice (some ⟨b, 0, none⟩) m1 nb) (.slice (some ⟨g, o, none⟩) nb bc) (.int .i64 p) (.slice s n c) (.slice t m d) (.slice a kq e)) := HAC2.out.beside bs_ (by omega) (by omega) (by omega) (by omega)
      have HB3 : Hid (Below w.heap.size w v0_3) := HB2.out.trans (bs_.below (by omega) HB2.out.size)
      have q4 : v0_2.heap.size ≤ v0_3.heap.size := bs_.2.2.2.1
      clear hv_ bs_ hl_ hf_ hg_ hst HU2 HAC2 HB2
      refine hK.out _ _ (HAC3.out) (fun hHeld => ?_)
      clear hK KK
      refine wpAnyH_take (i := 12) (v := .slice sL Lj.length cL) rfl (by kernel_rfl) (by kernel_rfl) (by kernel_rfl) (fun _ _ _ h => h) (Or.inl ⟨by kernel_rfl, ?_⟩) hHeld ?_
      · intro w' hSw
        obtain ⟨hx0, hxz, hb0, hbz, hn0, hn1, hn2, hnz, hc0, hcz⟩ := hSw
        first | (go_simp; done) | (go_simp; with_reducible rfl) | (go_simp; rw [IntKind.wrap_i64]; omega) | (go_simp; omega)
      simp only [Act.put, List.setIfInBounds_toArray, List.set_cons_zero, List.set_cons_succ]
      refine wpAnyH_ready (rs := [13]) (by kernel_rfl) (by simp) ?_
      refine AllReadyH.cons rfl (fun KK hK => ?_) AllReadyH.nil
      go_simp
      refine hK.out _ _ hHeld (fun hHeld => ?_)
      clear hK KK
      refine wpAnyH_done (by kernel_rfl) ?_ _
      clear hHeld
      have u0 := HU3.out.2.2 0 _ rfl
      have uz := HU3.out.1
      go_wp2
      refine bodyPost_ret (v := .tuple #[.agg #[.slice (some ⟨b, 0, none⟩) m1 nb], .slice sL Lj.length cL, .int .i64 0]) (by simp [results, Try.results25, go_sem, u0]) rfl ?_
      refine GbAns.hit HOK.out hq HM.out HKQ.out HLJ.out ?_
      exact ⟨_, nb, sL, cL, _, _, rfl, fun k hk => ⟨Nat.le_trans zwb hk.1, Nat.lt_of_lt_of_le hk.2 (Nat.le_trans q2 q4)⟩, HPK3, fun k hk => ⟨Nat.le_trans q1 hk.1, Nat.lt_of_lt_of_le hk.2 q4⟩, HL3, fun k h1 h2 => Nat.lt_irrefl _ (Nat.lt_of_lt_of_le h1.2 h2.1), HB3.out⟩

end Go.Proofs.Ytikcfpjfcpbfcaa
