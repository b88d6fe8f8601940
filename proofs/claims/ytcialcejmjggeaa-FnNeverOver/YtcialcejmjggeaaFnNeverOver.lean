/-
What is proved: machines that are drawn from any code begin so that at each tick up to 30 behind the last beginning at most what the diesel bears is taken, no two at one tick, and all of them where all may at once; no condition.
-/
import Derived.Test.YtcialcejmjggeaaNvN
import Derived.Test.YtcialcejmjggeaaLdI
import Derived.Test.YtcialcejmjggeaaLdS
import Derived.Test.YtcialcejmjggeaaPwAI
import Derived.Test.YtcialcejmjggeaaMhF
import Derived.Test.YtcialcejmjggeaaOpen8
import Derived.Deep.RegionHeldLaw

namespace Go.Proofs.Ytcialcejmjggeaa
set_option maxRecDepth 40000
open Go.ChangeShapes Go.WideShapes Go.ChangeAt Go.RowKit
set_option linter.unusedVariables false
set_option linter.unusedSimpArgs false

set_option maxHeartbeats 400000 in
theorem neverOver_far (w : World) (s : Option Addr) (n c : Nat) (h : (1048576 : Int) < n) :
    Calls Try.prog 6 #[.slice s n c] w fun e w' => e = .returned (.bool true) ∧ Below w.heap.size w w' := by
  go_enter Try.func6, Try.ntmps6
  go_wp2_with fail
  refine (big_yes _ _ _ _ h).mono ?_
  rintro e w1 ⟨rfl, rfl⟩
  go_wp2
  go_ret
  exact ⟨rfl, Below.refl _ _⟩
set_option maxRecDepth 20000 in
set_option maxHeartbeats 16000000 in
theorem neverOver_near (w : World) (s : Option Addr) (n c : Nat) (hn : (n : Int) ≤ 1048576) (HC8 : Hid (Code8 w s n)) :
    Calls Try.prog 6 #[.slice s n c] w fun e w' => e = .returned (.bool true) ∧ Below w.heap.size w w' := by
  go_enter Try.func6, Try.ntmps6
  go_wp2_with fail
  refine (big_no _ _ _ _ hn).mono ?_
  rintro e w1 ⟨rfl, rfl⟩
  rename World => w
  go_wp2_with fail
  refine (drawLoading_any HC8).mono ?_
  rintro e w2 h2
  unfold DmsPost at h2
  obtain ⟨t, m, cap, U, mo, rfl, m61, R2, B2⟩ := h2
  have HR : Hid (RowI w2 t (m * 4) U) := R2
  have HB : Hid (Below w.heap.size w w2) := B2
  have m5 : (m : Int) ≤ 1048576 := by omega
  clear R2 B2 hn
  go_wp2_with fail
  refine (specLoading_any t m cap U mo w2 m5 HR.out).mono ?_
  rintro e w3 ⟨s5, c5, rfl, -, b3⟩
  replace HR : Hid (RowI w3 t (m * 4) U) := HR.out.below b3
  replace HB : Hid (Below w.heap.size w w3) := HB.out.trans (b3.mono HB.out.size)
  clear b3
  go_wp2_with fail
  refine (implLoading_any t m cap U mo w3 m5 HR.out).mono ?_
  rintro e w6 ⟨s6, c6, rfl, O6, b4⟩
  have HT : Hid (RowI w6 s6 (ldM m U mo) (ldT U m mo)) := O6.row
  replace HR : Hid (RowI w6 t (m * 4) U) := HR.out.below b4
  replace HB : Hid (Below w.heap.size w w6) := HB.out.trans (b4.mono HB.out.size)
  clear O6 b4
  cases hb : ldB U m mo
  · have hB := HB.out
    clear hb HT
    go_wp2
    go_ret
    exact ⟨rfl, (by repeat (first | with_reducible exact Below.refl _ _ | with_reducible exact hB | with_reducible refine Below.setCell ?_ (by first | omega | (simp; done) | (simp; omega)) _ | with_reducible refine bDrewN ?_ _ | with_reducible refine Below.drew ?_ | with_reducible refine Below.alloc ?_ (by first | omega | (simp; done) | (simp; omega)) _))⟩
  have hMM : ldM m U mo = m := by unfold ldM; rw [hb]; rfl
  rw [hMM] at HT ⊢
  have hm : machsB m U = true := by
    unfold ldB at hb
    cases q : machsB m U
    · rw [q] at hb; simp at hb
    · rfl
  have hmo : inB 0 100000000 mo = true := by
    unfold ldB at hb
    cases q : inB 0 100000000 mo
    · rw [q] at hb; simp at hb
    · rfl
  obtain ⟨p0, p1⟩ := inB_yes hmo
  have HMS : Hid (machsB m U = true) := hm
  have n60 : m ≤ 60 := (machs_yes hm).1
  have HM : Hid (∀ j, j < m → machB U j = true) := (machs_yes hm).2
  have HNV : Hid (∀ t : Nat, 0 ≤ powV U (ldT U m mo) t m ∧ powV U (ldT U m mo) t m ≤ mo) := fun t => ⟨(pow_bd U _ _ m HM.out).1, never_over p0 HM.out t⟩
  have HAB : Hid (allS U m ≤ mo → begB (ldT U m mo) m = true) := fun h => begB_all m (all_begin n60 HM.out h)
  have HIJ : Hid (∀ i k, i ≠ k → 0 ≤ ldT U m mo i → ldT U m mo k ≠ ldT U m mo i) := fun i k h1 h2 => TT_inj U m mo 2000 i k h1 h2
  have HFB : Hid (∀ i, -1 ≤ ldT U m mo i ∧ ldT U m mo i < 2000) := fun i => TT_bd U m mo 2000 i
  obtain ⟨F, hF⟩ : ∃ F, ldT U m mo = F := ⟨_, rfl⟩
  rw [hF] at HT HNV HAB HIJ HFB
  clear hb hMM hm hmo hF
  go_wp2_with fail
  go_loopw [9, 10, 11, 12] (fun lv av bv iv wx => ∃ (i : Nat) (la : Int), i ≤ m ∧ iv = .int .i64 i ∧ lv = .int .i64 la ∧ 0 ≤ la ∧ la ≤ 2000 ∧ av = .int .i64 (allS U i) ∧ bv = .bool (begB F i) ∧ Hid (Below w6.heap.size w6 wx)) (fun _ _ _ iv _ => m - (intOf iv).toNat)
  case atStart => exact ⟨0, 0, Nat.zero_le _, rfl, rfl, by omega, by omega, rfl, rfl, Below.refl _ _⟩
  case round =>
    obtain ⟨i, la, hi, rfl, rfl, la0, la1, rfl, rfl, HBo⟩ := hrel
    have ab := allS_bd n60 HM.out i hi
    by_cases h1 : i < m
    case pos =>
      have k1 : (i : Int) < (m : Int) := by omega
      have hBo := HBo.out
      have HRo : Hid (RowI wr t (m * 4) U) := HR.out.below hBo
      have HTo : Hid (RowI wr s6 m F) := HT.out.below hBo
      obtain ⟨⟨va0, va1⟩, ⟨vb0, vb1⟩, -, -⟩ := machV_yes (HM.out i h1)
      obtain ⟨g, o, rfl, hg, c0⟩ := HRo.out (i * 4) (by omega)
      obtain ⟨g', o', e', -, c1⟩ := HRo.out (i * 4 + 1) (by omega)
      cases e'
      rw [← Nat.add_assoc] at c1
      obtain ⟨gt, ot, rfl, zt, ct⟩ := HTo.out i h1
      have fb := HFB.out i
      have HIN : Hid (0 ≤ F i → ∀ k, i ≠ k → F k ≠ F i) := fun h k hk => HIJ.out i k hk h
      have EA0 : Hid (allS U (i + 1) = allS U i + U (i * 4) + U (i * 4 + 1)) := rfl
      have EB0 : Hid (begB F (i + 1) = (begB F i && decide (0 ≤ F i))) := rfl
      obtain ⟨al, hal⟩ : ∃ z, allS U i = z := ⟨_, rfl⟩
      obtain ⟨bg, hbg⟩ : ∃ z, begB F i = z := ⟨_, rfl⟩
      obtain ⟨fi, hfi⟩ : ∃ z, F i = z := ⟨_, rfl⟩
      obtain ⟨xa, hxa⟩ : ∃ z, U (i * 4) = z := ⟨_, rfl⟩
      obtain ⟨xb, hxb⟩ : ∃ z, U (i * 4 + 1) = z := ⟨_, rfl⟩
      rw [hxa] at c0 va0 va1 EA0
      rw [hxb] at c1 vb0 vb1 EA0
      rw [hfi] at ct fb HIN EB0
      rw [hal] at ab EA0 ⊢
      rw [hbg] at EB0 ⊢
      clear hal hbg hfi hxa hxb
      obtain ⟨fb0, fb1⟩ := fb
      have ew1 : IntKind.i64.wrap (al + xa) = al + xa := by rw [IntKind.wrap_i64]; omega
      have ew2 : IntKind.i64.wrap (al + xa + xb) = al + xa + xb := by rw [IntKind.wrap_i64]; omega
      obtain ⟨x, hx, hx0, hx1⟩ : ∃ z : Int, (if la < fi then fi else la) = z ∧ 0 ≤ z ∧ z ≤ 2000 := ⟨_, rfl, by split <;> omega, by split <;> omega⟩
      by_cases hp : 0 ≤ fi
      case pos =>
        have hp2 : decide (0 ≤ fi) = true := by simpa using hp
        have HI2 : Hid (∀ k, i ≠ k → F k ≠ fi) := HIN.out hp
        cases bg
        · have EA : Hid (allS U (i + 1) = al + xa + xb) := EA0.out
          have EB : Hid (begB F (i + 1) = false) := by show _ = _; rw [EB0.out, hp2]; rfl
          clear EA0 EB0
          go_wp2_with fail
          go_quiet (fail)
          go_wp2_with fail
          obtain ⟨wo, hwo⟩ : ∃ z, z = wr.drewN nq := ⟨_, rfl⟩
          rw [← hwo]
          have bo : Below wr.heap.size wr wo := by rw [hwo]; exact (by repeat (first | with_reducible exact Below.refl _ _ | with_reducible refine Below.setCell ?_ (by first | omega | (simp; done) | (simp; omega)) _ | with_reducible refine bDrewN ?_ _ | with_reducible refine Below.drew ?_ | with_reducible refine Below.alloc ?_ (by first | omega | (simp; done) | (simp; omega)) _))
          have HBo2 : Hid (Below w6.heap.size w6 wo) := HBo.out.trans (bo.mono HBo.out.size)
          have ctw : wo.cell? ⟨gt, ot + i, none⟩ = some (.int .i64 fi) := (bo.cell (p := ⟨gt, ot + i, none⟩) zt).trans ct
          have zto : gt < wo.heap.size := Nat.lt_of_lt_of_le zt bo.size
          have HTo2 : Hid (RowI wo (some ⟨gt, ot, none⟩) m F) := HTo.out.below bo
          clear HBo HTo HRo hwo bo zt ct c0 c1 hg hBo ew1 ew2 hx
          go_loopw [13] (fun kv wx => ∃ k : Nat, k ≤ i ∧ kv = .int .i64 k ∧ Hid (Below wo.heap.size wo wx)) (fun kv _ => i - (intOf kv).toNat)
          case atStart => exact ⟨0, Nat.zero_le _, rfl, Below.refl _ _⟩
          case round =>
            obtain ⟨k, hk, rfl, HBk⟩ := hrel
            by_cases h2 : k < i
            case pos =>
              have km : k < m := by omega
              have kk1 : (k : Int) < (m : Int) := by omega
              have kk2 : (k : Int) < (i : Int) := by omega
              have hBk := HBk.out
              have cti : wr.cell? ⟨gt, ot + i, none⟩ = some (.int .i64 fi) := (hBk.cell (p := ⟨gt, ot + i, none⟩) zto).trans ctw
              obtain ⟨g2, o2, e2, zk, ck0⟩ := HTo2.out k km
              cases e2
              have ctk : wr.cell? ⟨gt, ot + k, none⟩ = some (.int .i64 (F k)) := (hBk.cell (p := ⟨gt, ot + k, none⟩) zk).trans ck0
              have hkne : F k ≠ fi := HI2.out k (by omega)
              obtain ⟨fk, hfk⟩ : ∃ z, F k = z := ⟨_, rfl⟩
              rw [hfk] at ctk hkne
              have hkne2 : (fk == fi) = false := by simpa using hkne
              clear ck0 hfk
              go_wp2_with fail
              go_quiet (fail)
              go_wp2
              go_roundw
              case rel => exact ⟨k + 1, by omega, by go_num, by show Below _ _ _; exact (by repeat (first | with_reducible exact Below.refl _ _ | with_reducible exact hBk | with_reducible refine Below.setCell ?_ (by first | omega | (simp; done) | (simp; omega)) _ | with_reducible refine bDrewN ?_ _ | with_reducible refine Below.drew ?_ | with_reducible refine Below.alloc ?_ (by first | omega | (simp; done) | (simp; omega)) _))⟩
              case measure => simp [intOf]; omega
            case neg =>
              obtain rfl : k = i := by omega
              have HBN : Hid (Below w6.heap.size w6 wr) := HBo2.out.trans (HBk.out.mono HBo2.out.size)
              clear HBo2 HBk HTo2
              go_wp2
              go_roundw
              case rel => exact ⟨k + 1, x, by omega, by go_num, rfl, by omega, by omega, by rw [EA.out], by rw [EB.out], HBN⟩
              case measure => simp [intOf]; omega
        · have EA : Hid (allS U (i + 1) = al + xa + xb) := EA0.out
          have EB : Hid (begB F (i + 1) = true) := by show _ = _; rw [EB0.out, hp2]; rfl
          clear EA0 EB0
          go_wp2_with fail
          go_quiet (fail)
          go_wp2_with fail
          obtain ⟨wo, hwo⟩ : ∃ z, z = wr.drewN nq := ⟨_, rfl⟩
          rw [← hwo]
          have bo : Below wr.heap.size wr wo := by rw [hwo]; exact (by repeat (first | with_reducible exact Below.refl _ _ | with_reducible refine Below.setCell ?_ (by first | omega | (simp; done) | (simp; omega)) _ | with_reducible refine bDrewN ?_ _ | with_reducible refine Below.drew ?_ | with_reducible refine Below.alloc ?_ (by first | omega | (simp; done) | (simp; omega)) _))
          have HBo2 : Hid (Below w6.heap.size w6 wo) := HBo.out.trans (bo.mono HBo.out.size)
          have ctw : wo.cell? ⟨gt, ot + i, none⟩ = some (.int .i64 fi) := (bo.cell (p := ⟨gt, ot + i, none⟩) zt).trans ct
          have zto : gt < wo.heap.size := Nat.lt_of_lt_of_le zt bo.size
          have HTo2 : Hid (RowI wo (some ⟨gt, ot, none⟩) m F) := HTo.out.below bo
          clear HBo HTo HRo hwo bo zt ct c0 c1 hg hBo ew1 ew2 hx
          go_loopw [13] (fun kv wx => ∃ k : Nat, k ≤ i ∧ kv = .int .i64 k ∧ Hid (Below wo.heap.size wo wx)) (fun kv _ => i - (intOf kv).toNat)
          case atStart => exact ⟨0, Nat.zero_le _, rfl, Below.refl _ _⟩
          case round =>
            obtain ⟨k, hk, rfl, HBk⟩ := hrel
            by_cases h2 : k < i
            case pos =>
              have km : k < m := by omega
              have kk1 : (k : Int) < (m : Int) := by omega
              have kk2 : (k : Int) < (i : Int) := by omega
              have hBk := HBk.out
              have cti : wr.cell? ⟨gt, ot + i, none⟩ = some (.int .i64 fi) := (hBk.cell (p := ⟨gt, ot + i, none⟩) zto).trans ctw
              obtain ⟨g2, o2, e2, zk, ck0⟩ := HTo2.out k km
              cases e2
              have ctk : wr.cell? ⟨gt, ot + k, none⟩ = some (.int .i64 (F k)) := (hBk.cell (p := ⟨gt, ot + k, none⟩) zk).trans ck0
              have hkne : F k ≠ fi := HI2.out k (by omega)
              obtain ⟨fk, hfk⟩ : ∃ z, F k = z := ⟨_, rfl⟩
              rw [hfk] at ctk hkne
              have hkne2 : (fk == fi) = false := by simpa using hkne
              clear ck0 hfk
              go_wp2_with fail
              go_quiet (fail)
              go_wp2
              go_roundw
              case rel => exact ⟨k + 1, by omega, by go_num, by show Below _ _ _; exact (by repeat (first | with_reducible exact Below.refl _ _ | with_reducible exact hBk | with_reducible refine Below.setCell ?_ (by first | omega | (simp; done) | (simp; omega)) _ | with_reducible refine bDrewN ?_ _ | with_reducible refine Below.drew ?_ | with_reducible refine Below.alloc ?_ (by first | omega | (simp; done) | (simp; omega)) _))⟩
              case measure => simp [intOf]; omega
            case neg =>
              obtain rfl : k = i := by omega
              have HBN : Hid (Below w6.heap.size w6 wr) := HBo2.out.trans (HBk.out.mono HBo2.out.size)
              clear HBo2 HBk HTo2
              go_wp2
              go_roundw
              case rel => exact ⟨k + 1, x, by omega, by go_num, rfl, by omega, by omega, by rw [EA.out], by rw [EB.out], HBN⟩
              case measure => simp [intOf]; omega
      case neg =>
        have hp2 : decide (0 ≤ fi) = false := by simpa using hp
        cases bg
        · have EA : Hid (allS U (i + 1) = al + xa + xb) := EA0.out
          have EB : Hid (begB F (i + 1) = false) := by show _ = _; rw [EB0.out, hp2]; rfl
          clear EA0 EB0
          go_wp2_with fail
          go_quiet (fail)
          go_wp2_with fail
          obtain ⟨wo, hwo⟩ : ∃ z, z = wr.drewN nq := ⟨_, rfl⟩
          rw [← hwo]
          have bo : Below wr.heap.size wr wo := by rw [hwo]; exact (by repeat (first | with_reducible exact Below.refl _ _ | with_reducible refine Below.setCell ?_ (by first | omega | (simp; done) | (simp; omega)) _ | with_reducible refine bDrewN ?_ _ | with_reducible refine Below.drew ?_ | with_reducible refine Below.alloc ?_ (by first | omega | (simp; done) | (simp; omega)) _))
          have HBo2 : Hid (Below w6.heap.size w6 wo) := HBo.out.trans (bo.mono HBo.out.size)
          have ctw : wo.cell? ⟨gt, ot + i, none⟩ = some (.int .i64 fi) := (bo.cell (p := ⟨gt, ot + i, none⟩) zt).trans ct
          have zto : gt < wo.heap.size := Nat.lt_of_lt_of_le zt bo.size
          have HTo2 : Hid (RowI wo (some ⟨gt, ot, none⟩) m F) := HTo.out.below bo
          clear HBo HTo HRo hwo bo zt ct c0 c1 hg hBo ew1 ew2 hx
          go_loopw [13] (fun kv wx => ∃ k : Nat, k ≤ i ∧ kv = .int .i64 k ∧ Hid (Below wo.heap.size wo wx)) (fun kv _ => i - (intOf kv).toNat)
          case atStart => exact ⟨0, Nat.zero_le _, rfl, Below.refl _ _⟩
          case round =>
            obtain ⟨k, hk, rfl, HBk⟩ := hrel
            by_cases h2 : k < i
            case pos =>
              have km : k < m := by omega
              have kk1 : (k : Int) < (m : Int) := by omega
              have kk2 : (k : Int) < (i : Int) := by omega
              have hBk := HBk.out
              have cti : wr.cell? ⟨gt, ot + i, none⟩ = some (.int .i64 fi) := (hBk.cell (p := ⟨gt, ot + i, none⟩) zto).trans ctw
              obtain ⟨g2, o2, e2, zk, ck0⟩ := HTo2.out k km
              cases e2
              have ctk : wr.cell? ⟨gt, ot + k, none⟩ = some (.int .i64 (F k)) := (hBk.cell (p := ⟨gt, ot + k, none⟩) zk).trans ck0
              obtain ⟨fk, hfk⟩ : ∃ z, F k = z := ⟨_, rfl⟩
              rw [hfk] at ctk
              clear ck0 hfk
              go_wp2_with fail
              go_quiet (fail)
              go_wp2
              go_roundw
              case rel => exact ⟨k + 1, by omega, by go_num, by show Below _ _ _; exact (by repeat (first | with_reducible exact Below.refl _ _ | with_reducible exact hBk | with_reducible refine Below.setCell ?_ (by first | omega | (simp; done) | (simp; omega)) _ | with_reducible refine bDrewN ?_ _ | with_reducible refine Below.drew ?_ | with_reducible refine Below.alloc ?_ (by first | omega | (simp; done) | (simp; omega)) _))⟩
              case measure => simp [intOf]; omega
            case neg =>
              obtain rfl : k = i := by omega
              have HBN : Hid (Below w6.heap.size w6 wr) := HBo2.out.trans (HBk.out.mono HBo2.out.size)
              clear HBo2 HBk HTo2
              go_wp2
              go_roundw
              case rel => exact ⟨k + 1, x, by omega, by go_num, rfl, by omega, by omega, by rw [EA.out], by rw [EB.out], HBN⟩
              case measure => simp [intOf]; omega
        · have EA : Hid (allS U (i + 1) = al + xa + xb) := EA0.out
          have EB : Hid (begB F (i + 1) = false) := by show _ = _; rw [EB0.out, hp2]; rfl
          clear EA0 EB0
          go_wp2_with fail
          go_quiet (fail)
          go_wp2_with fail
          obtain ⟨wo, hwo⟩ : ∃ z, z = wr.drewN nq := ⟨_, rfl⟩
          rw [← hwo]
          have bo : Below wr.heap.size wr wo := by rw [hwo]; exact (by repeat (first | with_reducible exact Below.refl _ _ | with_reducible refine Below.setCell ?_ (by first | omega | (simp; done) | (simp; omega)) _ | with_reducible refine bDrewN ?_ _ | with_reducible refine Below.drew ?_ | with_reducible refine Below.alloc ?_ (by first | omega | (simp; done) | (simp; omega)) _))
          have HBo2 : Hid (Below w6.heap.size w6 wo) := HBo.out.trans (bo.mono HBo.out.size)
          have ctw : wo.cell? ⟨gt, ot + i, none⟩ = some (.int .i64 fi) := (bo.cell (p := ⟨gt, ot + i, none⟩) zt).trans ct
          have zto : gt < wo.heap.size := Nat.lt_of_lt_of_le zt bo.size
          have HTo2 : Hid (RowI wo (some ⟨gt, ot, none⟩) m F) := HTo.out.below bo
          clear HBo HTo HRo hwo bo zt ct c0 c1 hg hBo ew1 ew2 hx
          go_loopw [13] (fun kv wx => ∃ k : Nat, k ≤ i ∧ kv = .int .i64 k ∧ Hid (Below wo.heap.size wo wx)) (fun kv _ => i - (intOf kv).toNat)
          case atStart => exact ⟨0, Nat.zero_le _, rfl, Below.refl _ _⟩
          case round =>
            obtain ⟨k, hk, rfl, HBk⟩ := hrel
            by_cases h2 : k < i
            case pos =>
              have km : k < m := by omega
              have kk1 : (k : Int) < (m : Int) := by omega
              have kk2 : (k : Int) < (i : Int) := by omega
              have hBk := HBk.out
              have cti : wr.cell? ⟨gt, ot + i, none⟩ = some (.int .i64 fi) := (hBk.cell (p := ⟨gt, ot + i, none⟩) zto).trans ctw
              obtain ⟨g2, o2, e2, zk, ck0⟩ := HTo2.out k km
              cases e2
              have ctk : wr.cell? ⟨gt, ot + k, none⟩ = some (.int .i64 (F k)) := (hBk.cell (p := ⟨gt, ot + k, none⟩) zk).trans ck0
              obtain ⟨fk, hfk⟩ : ∃ z, F k = z := ⟨_, rfl⟩
              rw [hfk] at ctk
              clear ck0 hfk
              go_wp2_with fail
              go_quiet (fail)
              go_wp2
              go_roundw
              case rel => exact ⟨k + 1, by omega, by go_num, by show Below _ _ _; exact (by repeat (first | with_reducible exact Below.refl _ _ | with_reducible exact hBk | with_reducible refine Below.setCell ?_ (by first | omega | (simp; done) | (simp; omega)) _ | with_reducible refine bDrewN ?_ _ | with_reducible refine Below.drew ?_ | with_reducible refine Below.alloc ?_ (by first | omega | (simp; done) | (simp; omega)) _))⟩
              case measure => simp [intOf]; omega
            case neg =>
              obtain rfl : k = i := by omega
              have HBN : Hid (Below w6.heap.size w6 wr) := HBo2.out.trans (HBk.out.mono HBo2.out.size)
              clear HBo2 HBk HTo2
              go_wp2
              go_roundw
              case rel => exact ⟨k + 1, x, by omega, by go_num, rfl, by omega, by omega, by rw [EA.out], by rw [EB.out], HBN⟩
              case measure => simp [intOf]; omega
    case neg =>
      obtain rfl : i = m := by omega
      rename World => wl
      have HBT : Hid (Below w.heap.size w wl) := HB.out.trans (HBo.out.mono HB.out.size)
      have HRl : Hid (RowI wl t (i * 4) U) := HR.out.below HBo.out
      have HTl : Hid (RowI wl s6 i F) := HT.out.below HBo.out
      have HAT : Hid (∀ tn : Nat, (tn : Int) ≤ 1000000 → atV i U i F (tn : Int) = powV U F tn i) := fun tn ht => by
        unfold atV
        rw [if_pos]
        unfold atB
        rw [HMS.out]
        have h1 : allInB (-1) 1000000 F i = true := by unfold allInB; exact decide_eq_true fun j hj => by have := HFB.out j; omega
        have h2 : inB 0 1000000 (tn : Int) = true := by unfold inB; exact decide_eq_true ⟨by omega, ht⟩
        rw [h1, h2]; simp
      clear HBo HR HT HB HIJ
      obtain ⟨al, hal⟩ : ∃ z, allS U i = z := ⟨_, rfl⟩
      have HAL : Hid (allS U i = al) := hal
      rw [hal] at ab ⊢
      clear hal
      have ew9 : IntKind.i64.wrap (la + 30) = la + 30 := by rw [IntKind.wrap_i64]; omega
      go_wp2_with fail
      go_loopw [14] (fun tv wx => ∃ tn : Nat, tv = .int .i64 tn ∧ (tn : Int) ≤ la + 31 ∧ Hid (Below wl.heap.size wl wx)) (fun tv _ => (la + 31 - intOf tv).toNat)
      case atStart => exact ⟨0, rfl, by omega, Below.refl _ _⟩
      case round =>
        obtain ⟨tn, rfl, ht, HBx⟩ := hrel
        have hBx := HBx.out
        by_cases h3 : (tn : Int) ≤ la + 30
        case pos =>
          have HRx : Hid (RowI wr t (i * 4) U) := HRl.out.below hBx
          have HTx : Hid (RowI wr s6 i F) := HTl.out.below hBx
          have hat := HAT.out tn (by omega)
          obtain ⟨q0, q1⟩ := HNV.out tn
          clear hBx
          go_wp2_with fail
          refine (implPower_any t i cap U s6 i c6 F (tn : Int) _ m5 m5 HRx HTx).mono ?_
          rintro e w9 ⟨rfl, b9⟩
          have HB9 : Hid (Below wl.heap.size wl w9) := HBx.out.trans (b9.mono HBx.out.size)
          rw [hat]
          clear b9 HBx HRx HTx hat
          obtain ⟨p, hp⟩ : ∃ z, powV U F tn i = z := ⟨_, rfl⟩
          rw [hp] at q0 q1 ⊢
          clear hp
          go_wp2
          go_roundw
          case rel => exact ⟨tn + 1, by go_num, by omega, HB9⟩
          case measure => simp [intOf]; omega
        case neg =>
          have HBF : Hid (Below w.heap.size w wr) := HBT.out.trans (hBx.mono HBT.out.size)
          clear hBx HBx HRl HTl HAT HBT
          by_cases h4 : mo < al
          · clear HAB
            obtain ⟨bg, hbg⟩ : ∃ z, begB F i = z := ⟨_, rfl⟩
            rw [hbg]
            clear hbg
            go_wp2
            go_ret
            exact ⟨by first | rfl | (simp; omega), HBF.out⟩
          · have hbg : begB F i = true := HAB.out (by rw [HAL.out]; omega)
            rw [hbg]
            clear hbg HAB
            go_wp2
            go_ret
            exact ⟨by first | rfl | (simp; omega), HBF.out⟩
theorem fnNeverOver_walk (w : World) (s : Option Addr) (n c : Nat) (hn : n ≤ 9223372036854775807) (R : Bytes w s n) :
    Calls Try.prog 6 #[.slice s n c] w fun e w' => e = .returned (.bool true) ∧ Below w.heap.size w w' := by
  by_cases h : n ≤ 1048576
  · exact neverOver_near w s n c (by omega) (R.code h)
  · exact neverOver_far w s n c (by omega)

set_option maxRecDepth 100000 in
theorem fnNeverOver_lifted (os : Os) (started : os.Started) (H : Type) (enc : TypeId × Value → H) :
    ReturnsInHanded {} Try.checked os 6 .any (Rows.fnNeverOverSpec.pre6 enc Try.prog Try.f6 Rows.fnNeverOverRow.domain false) (Rows.fnNeverOverSpec.post enc Try.prog Try.f6 false true false false) := by
  refine returnsInHanded_of_change (C := Try.checked) own started (by kernel_rfl) Try.func6
    (ChangeSpec.witness6 (enc := enc) (C := Try.checked) false ⟨#[], #[.slice none 0 0], []⟩ 8 (by kernel_rfl) (by kernel_rfl) (by kernel_rfl) (by kernel_rfl)) ?_
  intro W base args ds gs before hval0 hW hcnd _
  have hval : ∀ (j : Nat) t v, Try.f6.params[j]? = some t → args[j]? = some v → Value.okWide Try.prog W .any base t v := hval0
  have hW' := hW
  obtain ⟨p, q, hA0, hV, rfl, hfz, hnd⟩ := hW
  have hA : DataW.TrodAll enc Try.prog W 0 (fun _ => true) true Try.f6.params.toList args.toList ds p := hA0
  rw [Try.params6] at hA hval
  obtain ⟨v0, vs0, d0, ds0, p0, q0, hargs, rfl, rfl, h0, r0⟩ := trodAll_cons hA
  obtain ⟨rfl, rfl, rfl⟩ := trodAll_nil r0
  obtain rfl : args = #[v0] := by cases args; simp_all
  obtain ⟨rfl, rfl⟩ := trodVars_none hV
  have k0 := h0
  have lt0 : ∀ x ∈ p0, x.block < W.heap.size := by obtain ⟨m, hm⟩ := k0; exact DataW.trod_lt m _ _ _ hm
  obtain ⟨s0, n0, c0, rfl, m0, R0⟩ := open_code Try.underlying35 Try.underlying5 (by kernel_rfl) (hval 0 35 v0 rfl rfl) h0
  clear hA0 hval0
  refine (fnNeverOver_walk W s0 n0 c0 m0 R0).mono fun e W' ⟨he, bel⟩ => ?_
  subst he
  exact ⟨_, rfl, _, _, _, [], _, [], hW', trodAll_mk1 (shut_bool Try.underlying4 _), (trodAll_cons_mk (Below.trod laidOut (by kernel_rfl) (of_decide_eq_true (by kernel_rfl)) k0 bel lt0) trodAll_mk0), rfl, bel.frame _, fun h => by cases h⟩

theorem fnNeverOver_holds : Rows.FnNeverOverSaid :=
  OpenClaim.holds_of_wide 6 Try.f6 rfl rfl rfl rfl rfl rfl rfl ⟨rfl, rfl, rfl, rfl, rfl⟩ rfl rfl rfl rfl rfl (by kernel_rfl) Try.func6 (by kernel_rfl)
    (of_decide_eq_true (by kernel_rfl)) (by unfold Func.isWrapper; first | (rw [if_pos (by decide +kernel)]; kernel_rfl) | (rw [if_neg (by decide +kernel)]; exact ⟨rfl, rfl⟩))
    (fun os started H enc _ => fnNeverOver_lifted os started H enc)
#print axioms fnNeverOver_holds
end Go.Proofs.Ytcialcejmjggeaa
