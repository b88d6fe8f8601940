/-
What is proved: code that is drawn: any instructions, at most a million.
-/
import Derived.Test.YtdidgbibbkhnhaaRdM
import Derived.Test.YtdidgbibbkhnhaaIsA
import Derived.Test.YtdidgbibbkhnhaaSiz
import Derived.Test.YtdidgbibbkhnhaaTkS
import Derived.Test.YtdidgbibbkhnhaaLst
import Derived.Deep.DeepCutAuto
import Derived.RegionTactic
namespace Go.Proofs.Ytdidgbibbkhnhaa
set_option maxRecDepth 40000
open Go.ChangeShapes Go.WideShapes Go.ChangeAt Go.RowKit
set_option linter.unusedVariables false
set_option linter.unusedSimpArgs false

theorem l19One_any (x y : Int) (w : World) : Calls Try.prog 39 #[.int .i64 x, .int .i64 y] w fun e w' => e = .returned (.agg #[.int .i64 x, .int .i64 y]) ∧ Below w.heap.size w w' := by
  go_enter Try.func39, Try.ntmps39
  go_wp2
  exact bodyPost_ret (v := .agg #[.int .i64 x, .int .i64 y]) (by simp [results, Try.results39, go_sem]) rfl ⟨rfl, (by repeat (first | with_reducible exact Below.refl _ _ | with_reducible refine Below.setCell ?_ (by first | omega | (simp; done) | (simp; omega)) _ | with_reducible refine bDrewN ?_ _ | with_reducible refine Below.drew ?_ | with_reducible refine Below.alloc ?_ (by first | omega | (simp; done) | (simp; omega)) _))⟩
theorem OwnI.putI {base g m : Nat} {w : World} {V : Nat → Int} (h : OwnI base w (some ⟨g, 0, none⟩) m V) (i : Nat) (x : Int) : OwnI base (w.setCell ⟨g, i, none⟩ (.int .i64 x)) (some ⟨g, 0, none⟩) m (fun j => if j = i then x else V j) := fun j hj => by
  obtain ⟨b, e, hB, hl, hc, hf⟩ := h j hj
  cases e
  refine ⟨g, rfl, hB, by simpa using hl, ?_, by simp [go_sem, hf]⟩
  by_cases q : j = i
  · subst q; simp [go_sem, hc]
  · simp [go_sem, hc, q]
theorem InS.room {w0 : World} {r : Nat} {s : Option Addr} {n c b p k m : Nat} {t : Option Addr} {cap : Nat} {u : Value} {W : World} (h : InS w0 r s n c b p k m (.slice t k cap) u W) {i : Nat} (hi : i ≤ k) : i ≤ cap := by
  obtain ⟨h1, h2, ⟨U, h3⟩, h4⟩ := h
  rcases h3.2 with ⟨e, q⟩ | ⟨g, c', cur, e, hb, hg, hc, r⟩
  · cases e; omega
  · cases e; omega
def InPost (r : Nat) (s : Option Addr) (n c : Nat) (w : World) (e : Ending) (w' : World) : Prop := ∃ (t : Option Addr) (k cap : Nat) (U : Nat → Int) (p' : Nat), e = .returned (.slice t k cap) ∧ ((k : Int) ≤ 1048576 ∧ k ≤ cap) ∧ OwnI w.heap.size w' t (k * 2) U ∧ Rd w' r s n c p' ∧ Beside r w w'
set_option maxRecDepth 20000 in
set_option maxHeartbeats 16000000 in
theorem instrs_any {r : Nat} {s : Option Addr} {n c p : Nat} {w : World} (C I : Int) (C1 : 1 ≤ C) (C8 : C ≤ 8) (I0 : 0 ≤ I) (I3 : I ≤ 3) (h : Hid (Rd w r s n c p)) :
    Calls Try.prog 22 #[.pointer (some ⟨r, 0, none⟩), .int .i64 C, .int .i64 I] w fun e w' => InPost r s n c w e w' := by
  have zr : r < w.heap.size := h.out.1
  have nle : n ≤ 1048576 := h.out.2.2.2.2.2.1
  go_enter Try.func22, Try.ntmps22
  go_upto_region 3 with fail
  have HI : Hid (InS w r s n c w.heap.size p 0 0 (.slice (some ⟨w.heap.size, 0, none⟩) 0 0) (.slice (some ⟨w.heap.size + 1, 0, none⟩) 0 0) ((w.alloc (.cells #[] 31)).alloc (.cells #[] 2))) := by
    have b1 : Below w.heap.size w (w.alloc (.cells #[] 31)) := below0 _ _
    have b2 : Below (w.alloc (.cells #[] 31)).heap.size (w.alloc (.cells #[] 31)) ((w.alloc (.cells #[] 31)).alloc (.cells #[] 2)) := below0 _ _
    have bb : Below w.heap.size w ((w.alloc (.cells #[] 31)).alloc (.cells #[] 2)) := b1.trans (b2.mono b1.size)
    refine ⟨h.out.below bb, Beside.of bb, ⟨fun _ => 0, ?_⟩, ⟨fun _ => 0, ?_⟩, Nat.le_refl _, zr, bb.size⟩
    · have := World.ownsRow_lit (base := w.heap.size) (size := 2) (e := 31) w #[] 0 (Nat.le_refl _) (by simp [maxLen]) (by simp)
      exact own_keptI (by simpa [vals] using this) (fun g _ hz => b2.block g hz)
    · have := World.ownsRow_lit (base := w.heap.size) (size := 1) (e := 2) (w.alloc (.cells #[] 31)) #[] 0 (by simp) (by simp [maxLen]) (by simp)
      simpa [vals] using this
  obtain ⟨wa0, hwa0⟩ : ∃ z, z = ((w.alloc (.cells #[] 31)).alloc (.cells #[] 2)) := ⟨_, rfl⟩
  rw [← hwa0] at HI ⊢
  clear hwa0 h
  go_wp2_with fail
  refine (size_any 10 12 (by omega) (by omega) (by omega) (by omega) HI.out.1).mono ?_
  rintro e x20 ⟨Q, pq, rfl, Q1, Q2, R_, b_⟩
  replace HI : Hid (InS w r s n c w.heap.size pq 0 0 (.slice (some ⟨w.heap.size, 0, none⟩) 0 0) (.slice (some ⟨w.heap.size + 1, 0, none⟩) 0 0) x20) := HI.out.read R_ b_
  clear R_ b_
  obtain ⟨q0, rfl⟩ : ∃ q : Nat, Q = (q : Int) := ⟨Q.toNat, by omega⟩
  have q13 : q0 ≤ 13 := by omega
  clear Q1 Q2
  go_wp2_with fail
  go_loopw [7, 8, 9] (fun v u i wx => ∃ (k m pp q : Nat), q ≤ 13 ∧ m + q ≤ 13 ∧ 2 * k + 16 * q ≤ 208 + pp ∧ k ≤ 1000000 ∧ i = .int .i64 (q : Int) ∧ Hid (InS w r s n c w.heap.size pp k m v u wx)) (fun _ _ i _ => (intOf i).toNat)
  case atStart => exact ⟨0, 0, pq, q0, q13, by omega, by omega, by omega, rfl, HI⟩
  case round =>
    clear HI
    obtain ⟨k, m, pp, q, hq, hmq, hK, hk6, rfl, HI⟩ := hrel
    have ppn : pp ≤ n := HI.out.1.2.2.2.2.1
    obtain ⟨⟨t7, c7, e7⟩, ⟨t8, c8, e8⟩⟩ := HI.out.form
    subst e7 e8
    rename World => wa
    by_cases hq0 : 0 < q
    case neg =>
      have hq1 : ¬ (0 : Int) < (q : Int) := by omega
      go_wp2_with fail
      refine (once_any 6 (by omega) (by omega) HI.out.1).mono ?_
      rintro e x9 ⟨fl, pz, rfl, R_, b_⟩
      replace HI : Hid (InS w r s n c w.heap.size pz k m (.slice t7 k c7) (.slice t8 m c8) x9) := HI.out.read R_ b_
      clear R_ b_
      cases fl
      case false =>
        obtain ⟨t, cap, U, e7, OF⟩ := HI.out.row
        cases e7
        have RF := HI.out.1
        have BF := HI.out.2.1
        have RM := HI.out.room (Nat.le_refl _)
        go_wp2
        go_ret
        unfold InPost
        exact ⟨t7, k, c7, U, pz, rfl, ⟨by omega, RM⟩, OF.mono (Nat.le_refl _), RF, BF⟩
      case true =>
        by_cases hk0 : 0 < k
        case neg =>
          have hk1 : ¬ (0 : Int) < (k : Int) := by omega
          obtain ⟨t, cap, U, e7, OF⟩ := HI.out.row
          cases e7
          have RF := HI.out.1
          have BF := HI.out.2.1
          have RM := HI.out.room (Nat.le_refl _)
          go_wp2
          go_ret
          unfold InPost
          exact ⟨t7, k, c7, U, pz, rfl, ⟨by omega, RM⟩, OF.mono (Nat.le_refl _), RF, BF⟩
        case pos =>
          have hk1 : (0 : Int) < (k : Int) := by omega
          go_wp2_with fail
          refine (below_m (k : Int) HI.out.1).mono ?_
          rintro e x18 ⟨i, pi, rfl, i0, i1, i2, -, R_, b_⟩
          replace HI : Hid (InS w r s n c w.heap.size pi k m (.slice t7 k c7) (.slice t8 m c8) x18) := HI.out.read R_ b_
          clear R_ b_
          obtain ⟨i', rfl⟩ : ∃ i' : Nat, i = (i' : Int) := ⟨i.toNat, by omega⟩
          have ik : i' < k := by omega
          have iki : (i' : Int) < (k : Int) := by omega
          clear i0 i1 i2
          go_wp2_with fail
          refine (below_m 4 HI.out.1).mono ?_
          rintro e x19 ⟨x, pz, rfl, x0, x1, x2, -, R_, b_⟩
          replace HI : Hid (InS w r s n c w.heap.size pz k m (.slice t7 k c7) (.slice t8 m c8) x19) := HI.out.read R_ b_
          clear R_ b_
          have xc : x = 0 ∨ x = 1 ∨ x = 2 ∨ x = 3 := by omega
          clear x0 x1 x2
          rcases xc with rfl | rfl | rfl | rfl
          · have cw : IntKind.i64.wrap (C - 1) = C - 1 := by rw [IntKind.wrap_i64]; omega
            by_cases c1 : 0 < C - 1
            case pos =>
              go_wp2_with fail
              refine (off_any 0 (C - 1) (by omega) (by omega) (by omega) HI.out.1).mono ?_
              rintro e x9 ⟨z, pz, rfl, z0, R_, b_⟩
              replace HI : Hid (InS w r s n c w.heap.size pz k m (.slice t7 k c7) (.slice t8 m c8) x9) := HI.out.read R_ b_
              clear R_ b_ z0
              obtain ⟨t, cap, U, e7, HO⟩ := HI.out.row
              cases e7
              obtain ⟨g7, e7, gb, gl, gc, gf⟩ := HO (i' * 2 + 1) (by omega)
              subst e7
              have OF := HO.putI (i' * 2 + 1) z
              have RM := HI.out.room (Nat.le_refl _)
              have RF0 := HI.out.1
              have BF0 := HI.out.2.1
              have rl : r < w.heap.size := HI.out.2.2.2.2.2.1
              have BF : Beside r w (x9.setCell ⟨g7, i' * 2 + 1, none⟩ (.int .i64 z)) := BF0.onB ((Beside.setCell g7 x9 _ _).below gb BF0.2.2.2.1)
              have RF : Rd (x9.setCell ⟨g7, i' * 2 + 1, none⟩ (.int .i64 z)) r s n c pz := RF0.below' ((Beside.setCell g7 x9 _ _).below (by omega) RF0.1)
              clear RF0 BF0
              go_wp2
              go_ret
              unfold InPost
              exact ⟨_, k, c7, _, pz, rfl, ⟨by omega, RM⟩, OF.mono (Nat.le_refl _), RF, BF⟩
            case neg =>
              go_wp2_with fail
              refine (off_any 0 0 (by omega) (by omega) (by omega) HI.out.1).mono ?_
              rintro e x9 ⟨z, pz, rfl, z0, R_, b_⟩
              replace HI : Hid (InS w r s n c w.heap.size pz k m (.slice t7 k c7) (.slice t8 m c8) x9) := HI.out.read R_ b_
              clear R_ b_ z0
              obtain ⟨t, cap, U, e7, HO⟩ := HI.out.row
              cases e7
              obtain ⟨g7, e7, gb, gl, gc, gf⟩ := HO (i' * 2 + 1) (by omega)
              subst e7
              have OF := HO.putI (i' * 2 + 1) z
              have RM := HI.out.room (Nat.le_refl _)
              have RF0 := HI.out.1
              have BF0 := HI.out.2.1
              have rl : r < w.heap.size := HI.out.2.2.2.2.2.1
              have BF : Beside r w (x9.setCell ⟨g7, i' * 2 + 1, none⟩ (.int .i64 z)) := BF0.onB ((Beside.setCell g7 x9 _ _).below gb BF0.2.2.2.1)
              have RF : Rd (x9.setCell ⟨g7, i' * 2 + 1, none⟩ (.int .i64 z)) r s n c pz := RF0.below' ((Beside.setCell g7 x9 _ _).below (by omega) RF0.1)
              clear RF0 BF0
              go_wp2
              go_ret
              unfold InPost
              exact ⟨_, k, c7, _, pz, rfl, ⟨by omega, RM⟩, OF.mono (Nat.le_refl _), RF, BF⟩
          · skip
            go_wp2_with fail
            refine (off_any 1 6 (by omega) (by omega) (by omega) HI.out.1).mono ?_
            rintro e x9 ⟨z, pz, rfl, z0, R_, b_⟩
            replace HI : Hid (InS w r s n c w.heap.size pz k m (.slice t7 k c7) (.slice t8 m c8) x9) := HI.out.read R_ b_
            clear R_ b_ z0
            obtain ⟨t, cap, U, e7, HO⟩ := HI.out.row
            cases e7
            obtain ⟨g7, e7, gb, gl, gc, gf⟩ := HO (i' * 2) (by omega)
            subst e7
            have OF := HO.putI (i' * 2) z
            have RM := HI.out.room (Nat.le_refl _)
            have RF0 := HI.out.1
            have BF0 := HI.out.2.1
            have rl : r < w.heap.size := HI.out.2.2.2.2.2.1
            have BF : Beside r w (x9.setCell ⟨g7, i' * 2, none⟩ (.int .i64 z)) := BF0.onB ((Beside.setCell g7 x9 _ _).below gb BF0.2.2.2.1)
            have RF : Rd (x9.setCell ⟨g7, i' * 2, none⟩ (.int .i64 z)) r s n c pz := RF0.below' ((Beside.setCell g7 x9 _ _).below (by omega) RF0.1)
            clear RF0 BF0
            go_wp2
            go_ret
            unfold InPost
            exact ⟨_, k, c7, _, pz, rfl, ⟨by omega, RM⟩, OF.mono (Nat.le_refl _), RF, BF⟩
          · obtain ⟨t, cap, U, e7, HO⟩ := HI.out.row
            cases e7
            have OF : OwnI w.heap.size _ t7 (i' * 2) U := fun j hj => HO j (by omega)
            have ikn : i' ≤ c7 := HI.out.room (by omega)
            obtain ⟨g7, e7, -⟩ := HO 0 (by omega)
            subst e7
            have iki2 : (i' : Int) ≤ (c7 : Int) := by omega
            have RF := HI.out.1
            have BF := HI.out.2.1
            have RM := ikn
            go_wp2
            go_ret
            unfold InPost
            exact ⟨_, i', c7, U, pz, rfl, ⟨by omega, RM⟩, OF.mono (Nat.le_refl _), RF, BF⟩
          · obtain ⟨t, cap, U, e7, HO⟩ := HI.out.row
            cases e7
            obtain ⟨g7, e7, gb, gl, gc, gf⟩ := HO (i' * 2) (by omega)
            subst e7
            obtain ⟨g6, e6, -, -, gc1, -⟩ := HO (i' * 2 + 1) (by omega)
            cases e6
            obtain ⟨y0, hy0⟩ : ∃ z, U (i' * 2) = z := ⟨_, rfl⟩
            obtain ⟨y1, hy1⟩ : ∃ z, U (i' * 2 + 1) = z := ⟨_, rfl⟩
            rw [hy0] at gc
            rw [hy1] at gc1
            clear hy0 hy1 HO
            go_wp2_with (first | (at_builtin; refine in_one _ _ (by rfl) (by rfl) (by rfl) (by rfl) HI.out (by omega) ?_; intro g9 cap9 w9 h9))
            have HI9 : Hid (InS w r s n c w.heap.size pz (k + 1) m (.slice (some ⟨g9, 0, none⟩) (k + 1) cap9) (.slice t8 m c8) w9) := h9
            clear h9
            obtain ⟨t, cap, U', e7, OF⟩ := HI9.out.row
            cases e7
            have RF := HI9.out.1
            have BF := HI9.out.2.1
            have RM := HI9.out.room (Nat.le_refl _)
            go_wp2
            go_ret
            unfold InPost
            exact ⟨_, (k + 1), _, U', pz, rfl, ⟨by omega, RM⟩, OF.mono (Nat.le_refl _), RF, BF⟩
    case pos =>
    have hq1 : (0 : Int) < (q : Int) := by omega
    by_cases hmC2 : (m : Int) < C
    case neg =>
      go_wp2_with fail
      refine (once_any 6 (by omega) (by omega) HI.out.1).mono ?_
      rintro e x9 ⟨fl, pz, rfl, R_, b_⟩
      replace HI : Hid (InS w r s n c w.heap.size pz k m (.slice t7 k c7) (.slice t8 m c8) x9) := HI.out.read R_ b_
      clear R_ b_
      cases fl
      case false =>
        obtain ⟨t, cap, U, e7, OF⟩ := HI.out.row
        cases e7
        have RF := HI.out.1
        have BF := HI.out.2.1
        have RM := HI.out.room (Nat.le_refl _)
        go_wp2
        go_ret
        unfold InPost
        exact ⟨t7, k, c7, U, pz, rfl, ⟨by omega, RM⟩, OF.mono (Nat.le_refl _), RF, BF⟩
      case true =>
        by_cases hk0 : 0 < k
        case neg =>
          have hk1 : ¬ (0 : Int) < (k : Int) := by omega
          obtain ⟨t, cap, U, e7, OF⟩ := HI.out.row
          cases e7
          have RF := HI.out.1
          have BF := HI.out.2.1
          have RM := HI.out.room (Nat.le_refl _)
          go_wp2
          go_ret
          unfold InPost
          exact ⟨t7, k, c7, U, pz, rfl, ⟨by omega, RM⟩, OF.mono (Nat.le_refl _), RF, BF⟩
        case pos =>
          have hk1 : (0 : Int) < (k : Int) := by omega
          go_wp2_with fail
          refine (below_m (k : Int) HI.out.1).mono ?_
          rintro e x18 ⟨i, pi, rfl, i0, i1, i2, -, R_, b_⟩
          replace HI : Hid (InS w r s n c w.heap.size pi k m (.slice t7 k c7) (.slice t8 m c8) x18) := HI.out.read R_ b_
          clear R_ b_
          obtain ⟨i', rfl⟩ : ∃ i' : Nat, i = (i' : Int) := ⟨i.toNat, by omega⟩
          have ik : i' < k := by omega
          have iki : (i' : Int) < (k : Int) := by omega
          clear i0 i1 i2
          go_wp2_with fail
          refine (below_m 4 HI.out.1).mono ?_
          rintro e x19 ⟨x, pz, rfl, x0, x1, x2, -, R_, b_⟩
          replace HI : Hid (InS w r s n c w.heap.size pz k m (.slice t7 k c7) (.slice t8 m c8) x19) := HI.out.read R_ b_
          clear R_ b_
          have xc : x = 0 ∨ x = 1 ∨ x = 2 ∨ x = 3 := by omega
          clear x0 x1 x2
          rcases xc with rfl | rfl | rfl | rfl
          · have cw : IntKind.i64.wrap (C - 1) = C - 1 := by rw [IntKind.wrap_i64]; omega
            by_cases c1 : 0 < C - 1
            case pos =>
              go_wp2_with fail
              refine (off_any 0 (C - 1) (by omega) (by omega) (by omega) HI.out.1).mono ?_
              rintro e x9 ⟨z, pz, rfl, z0, R_, b_⟩
              replace HI : Hid (InS w r s n c w.heap.size pz k m (.slice t7 k c7) (.slice t8 m c8) x9) := HI.out.read R_ b_
              clear R_ b_ z0
              obtain ⟨t, cap, U, e7, HO⟩ := HI.out.row
              cases e7
              obtain ⟨g7, e7, gb, gl, gc, gf⟩ := HO (i' * 2 + 1) (by omega)
              subst e7
              have OF := HO.putI (i' * 2 + 1) z
              have RM := HI.out.room (Nat.le_refl _)
              have RF0 := HI.out.1
              have BF0 := HI.out.2.1
              have rl : r < w.heap.size := HI.out.2.2.2.2.2.1
              have BF : Beside r w (x9.setCell ⟨g7, i' * 2 + 1, none⟩ (.int .i64 z)) := BF0.onB ((Beside.setCell g7 x9 _ _).below gb BF0.2.2.2.1)
              have RF : Rd (x9.setCell ⟨g7, i' * 2 + 1, none⟩ (.int .i64 z)) r s n c pz := RF0.below' ((Beside.setCell g7 x9 _ _).below (by omega) RF0.1)
              clear RF0 BF0
              go_wp2
              go_ret
              unfold InPost
              exact ⟨_, k, c7, _, pz, rfl, ⟨by omega, RM⟩, OF.mono (Nat.le_refl _), RF, BF⟩
            case neg =>
              go_wp2_with fail
              refine (off_any 0 0 (by omega) (by omega) (by omega) HI.out.1).mono ?_
              rintro e x9 ⟨z, pz, rfl, z0, R_, b_⟩
              replace HI : Hid (InS w r s n c w.heap.size pz k m (.slice t7 k c7) (.slice t8 m c8) x9) := HI.out.read R_ b_
              clear R_ b_ z0
              obtain ⟨t, cap, U, e7, HO⟩ := HI.out.row
              cases e7
              obtain ⟨g7, e7, gb, gl, gc, gf⟩ := HO (i' * 2 + 1) (by omega)
              subst e7
              have OF := HO.putI (i' * 2 + 1) z
              have RM := HI.out.room (Nat.le_refl _)
              have RF0 := HI.out.1
              have BF0 := HI.out.2.1
              have rl : r < w.heap.size := HI.out.2.2.2.2.2.1
              have BF : Beside r w (x9.setCell ⟨g7, i' * 2 + 1, none⟩ (.int .i64 z)) := BF0.onB ((Beside.setCell g7 x9 _ _).below gb BF0.2.2.2.1)
              have RF : Rd (x9.setCell ⟨g7, i' * 2 + 1, none⟩ (.int .i64 z)) r s n c pz := RF0.below' ((Beside.setCell g7 x9 _ _).below (by omega) RF0.1)
              clear RF0 BF0
              go_wp2
              go_ret
              unfold InPost
              exact ⟨_, k, c7, _, pz, rfl, ⟨by omega, RM⟩, OF.mono (Nat.le_refl _), RF, BF⟩
          · skip
            go_wp2_with fail
            refine (off_any 1 6 (by omega) (by omega) (by omega) HI.out.1).mono ?_
            rintro e x9 ⟨z, pz, rfl, z0, R_, b_⟩
            replace HI : Hid (InS w r s n c w.heap.size pz k m (.slice t7 k c7) (.slice t8 m c8) x9) := HI.out.read R_ b_
            clear R_ b_ z0
            obtain ⟨t, cap, U, e7, HO⟩ := HI.out.row
            cases e7
            obtain ⟨g7, e7, gb, gl, gc, gf⟩ := HO (i' * 2) (by omega)
            subst e7
            have OF := HO.putI (i' * 2) z
            have RM := HI.out.room (Nat.le_refl _)
            have RF0 := HI.out.1
            have BF0 := HI.out.2.1
            have rl : r < w.heap.size := HI.out.2.2.2.2.2.1
            have BF : Beside r w (x9.setCell ⟨g7, i' * 2, none⟩ (.int .i64 z)) := BF0.onB ((Beside.setCell g7 x9 _ _).below gb BF0.2.2.2.1)
            have RF : Rd (x9.setCell ⟨g7, i' * 2, none⟩ (.int .i64 z)) r s n c pz := RF0.below' ((Beside.setCell g7 x9 _ _).below (by omega) RF0.1)
            clear RF0 BF0
            go_wp2
            go_ret
            unfold InPost
            exact ⟨_, k, c7, _, pz, rfl, ⟨by omega, RM⟩, OF.mono (Nat.le_refl _), RF, BF⟩
          · obtain ⟨t, cap, U, e7, HO⟩ := HI.out.row
            cases e7
            have OF : OwnI w.heap.size _ t7 (i' * 2) U := fun j hj => HO j (by omega)
            have ikn : i' ≤ c7 := HI.out.room (by omega)
            obtain ⟨g7, e7, -⟩ := HO 0 (by omega)
            subst e7
            have iki2 : (i' : Int) ≤ (c7 : Int) := by omega
            have RF := HI.out.1
            have BF := HI.out.2.1
            have RM := ikn
            go_wp2
            go_ret
            unfold InPost
            exact ⟨_, i', c7, U, pz, rfl, ⟨by omega, RM⟩, OF.mono (Nat.le_refl _), RF, BF⟩
          · obtain ⟨t, cap, U, e7, HO⟩ := HI.out.row
            cases e7
            obtain ⟨g7, e7, gb, gl, gc, gf⟩ := HO (i' * 2) (by omega)
            subst e7
            obtain ⟨g6, e6, -, -, gc1, -⟩ := HO (i' * 2 + 1) (by omega)
            cases e6
            obtain ⟨y0, hy0⟩ : ∃ z, U (i' * 2) = z := ⟨_, rfl⟩
            obtain ⟨y1, hy1⟩ : ∃ z, U (i' * 2 + 1) = z := ⟨_, rfl⟩
            rw [hy0] at gc
            rw [hy1] at gc1
            clear hy0 hy1 HO
            go_wp2_with (first | (at_builtin; refine in_one _ _ (by rfl) (by rfl) (by rfl) (by rfl) HI.out (by omega) ?_; intro g9 cap9 w9 h9))
            have HI9 : Hid (InS w r s n c w.heap.size pz (k + 1) m (.slice (some ⟨g9, 0, none⟩) (k + 1) cap9) (.slice t8 m c8) w9) := h9
            clear h9
            obtain ⟨t, cap, U', e7, OF⟩ := HI9.out.row
            cases e7
            have RF := HI9.out.1
            have BF := HI9.out.2.1
            have RM := HI9.out.room (Nat.le_refl _)
            go_wp2
            go_ret
            unfold InPost
            exact ⟨_, (k + 1), _, U', pz, rfl, ⟨by omega, RM⟩, OF.mono (Nat.le_refl _), RF, BF⟩
    case pos =>
      obtain ⟨q, rfl⟩ : ∃ q', q = q' + 1 := ⟨q - 1, by omega⟩
      have qc : ((q + 1 : Nat) : Int) = (q : Int) + 1 := by omega
      go_wp2_with fail
      refine (below_m 4 HI.out.1).mono ?_
      rintro e x21 ⟨K, pp1, rfl, K0, K1, K2, Kp, R_, b_⟩
      replace HI : Hid (InS w r s n c w.heap.size pp1 k m (.slice t7 k c7) (.slice t8 m c8) x21) := HI.out.read R_ b_
      clear R_ b_
      obtain ⟨J, hJ⟩ : ∃ J : Nat, 1 + K = (J : Int) := ⟨(1 + K).toNat, by omega⟩
      have J1 : 1 ≤ J := by omega
      have J4 : J ≤ 4 := by omega
      have hK2 : 2 * k + 16 * (q + 1) ≤ 208 + pp1 := by omega
      have pp1n : pp1 ≤ n := HI.out.1.2.2.2.2.1
      clear K0 K1 K2 hK ppn
      obtain ⟨pp2, hpp2⟩ : ∃ z, pp1 = z := ⟨_, rfl⟩
      go_wp2_with fail
      try rw [hJ]
      clear hJ
      subst hpp2
      go_loopw [7, 10, 11] (fun v dd jj wx => ∃ (kk j d px : Nat), Hid (j + d = J ∧ kk = k + d) ∧ pp1 ≤ px ∧ kk ≤ 1000000 ∧ dd = .int .i64 (d : Int) ∧ jj = .int .i64 (j : Int) ∧ Hid (InS w r s n c w.heap.size px kk m v (.slice t8 m c8) wx)) (fun v _ _ _ => 2000000 - lenL v)
      case atStart => exact ⟨k, J, 0, pp1, ⟨by omega, by omega⟩, by omega, by omega, rfl, rfl, HI⟩
      case round =>
        clear HI
        obtain ⟨kk, j, d, px0, HJ, hpx, hk6, rfl, rfl, HI⟩ := hrel
        have dJ : d ≤ 4 := by have := HJ.out; omega
        have jJ : j ≤ 4 := by have := HJ.out; omega
        obtain ⟨⟨t7, c7, e7⟩, -⟩ := HI.out.form
        subst e7
        rename World => wb
        by_cases hj : 0 < j
        case pos =>
          have j1 : (0 : Int) < (j : Int) := by omega
          obtain ⟨j, rfl⟩ : ∃ j', j = j' + 1 := ⟨j - 1, by omega⟩
          have jw : ((j + 1 : Nat) : Int) - 1 = (j : Int) := by omega
          have jc : ((j + 1 : Nat) : Int) = (j : Int) + 1 := by omega
          go_wp2_with fail
          refine (below_m 4 HI.out.1).mono ?_
          rintro e x13 ⟨x, px, rfl, x0, x1, x2, xp, R_, b_⟩
          replace HI : Hid (InS w r s n c w.heap.size px kk m (.slice t7 kk c7) (.slice t8 m c8) x13) := HI.out.read R_ b_
          clear R_ b_
          have xc : x = 0 ∨ x = 1 ∨ x = 2 ∨ x = 3 := by omega
          clear x0 x1 x2
          rcases xc with rfl | rfl | rfl | rfl
          · skip
            by_cases c1 : 1 < C
            case pos =>
              go_wp2_with fail
              refine (below_m C HI.out.1).mono ?_
              rintro e x1 ⟨y, py, rfl, y0, y1, y2, yp, R_, b_⟩
              replace HI : Hid (InS w r s n c w.heap.size py kk m (.slice t7 kk c7) (.slice t8 m c8) x1) := HI.out.read R_ b_
              clear R_ b_
              go_wp2_with fail
              refine (l19One_any 2 y _).mono ?_
              rintro e x2 ⟨rfl, b_⟩
              replace HI : Hid (InS w r s n c w.heap.size py kk m (.slice t7 kk c7) (.slice t8 m c8) x2) := HI.out.below b_
              clear b_
              go_wp2_with (first | (at_builtin; refine in_one _ _ (by rfl) (by rfl) (by rfl) (by rfl) HI.out (by omega) ?_; intro g9 cap9 w9 h9))
              replace HI : Hid (InS w r s n c w.heap.size py (kk + 1) m (.slice (some ⟨g9, 0, none⟩) (kk + 1) cap9) (.slice t8 m c8) w9) := h9
              clear h9
              go_roundw
              case rel => exact ⟨kk + 1, j, d + 1, py, ⟨by have := HJ.out; omega, by have := HJ.out; omega⟩, by omega, by have := HJ.out; omega, by go_num, by go_num, HI⟩
              case measure => simp [lenL]; omega
            case neg =>
              go_wp2_with fail
              refine (below_m 1 HI.out.1).mono ?_
              rintro e x3 ⟨y, py, rfl, y0, y1, y2, yp, R_, b_⟩
              replace HI : Hid (InS w r s n c w.heap.size py kk m (.slice t7 kk c7) (.slice t8 m c8) x3) := HI.out.read R_ b_
              clear R_ b_
              go_wp2_with fail
              refine (l19One_any 2 y _).mono ?_
              rintro e x4 ⟨rfl, b_⟩
              replace HI : Hid (InS w r s n c w.heap.size py kk m (.slice t7 kk c7) (.slice t8 m c8) x4) := HI.out.below b_
              clear b_
              go_wp2_with (first | (at_builtin; refine in_one _ _ (by rfl) (by rfl) (by rfl) (by rfl) HI.out (by omega) ?_; intro g9 cap9 w9 h9))
              replace HI : Hid (InS w r s n c w.heap.size py (kk + 1) m (.slice (some ⟨g9, 0, none⟩) (kk + 1) cap9) (.slice t8 m c8) w9) := h9
              clear h9
              go_roundw
              case rel => exact ⟨kk + 1, j, d + 1, py, ⟨by have := HJ.out; omega, by have := HJ.out; omega⟩, by omega, by have := HJ.out; omega, by go_num, by go_num, HI⟩
              case measure => simp [lenL]; omega
          · skip
            go_wp2_with fail
            refine (near_m (-9) 9 (by omega) (by omega) (by omega) (by omega) HI.out.1).mono ?_
            rintro e x5 ⟨y, py, rfl, y0, y1, yp, -, R_, b_⟩
            replace HI : Hid (InS w r s n c w.heap.size py kk m (.slice t7 kk c7) (.slice t8 m c8) x5) := HI.out.read R_ b_
            clear R_ b_
            go_wp2_with fail
            refine (l19One_any 3 y _).mono ?_
            rintro e x6 ⟨rfl, b_⟩
            replace HI : Hid (InS w r s n c w.heap.size py kk m (.slice t7 kk c7) (.slice t8 m c8) x6) := HI.out.below b_
            clear b_
            go_wp2_with (first | (at_builtin; refine in_one _ _ (by rfl) (by rfl) (by rfl) (by rfl) HI.out (by omega) ?_; intro g9 cap9 w9 h9))
            replace HI : Hid (InS w r s n c w.heap.size py (kk + 1) m (.slice (some ⟨g9, 0, none⟩) (kk + 1) cap9) (.slice t8 m c8) w9) := h9
            clear h9
            go_roundw
            case rel => exact ⟨kk + 1, j, d + 1, py, ⟨by have := HJ.out; omega, by have := HJ.out; omega⟩, by omega, by have := HJ.out; omega, by go_num, by go_num, HI⟩
            case measure => simp [lenL]; omega
          · skip
            by_cases m0 : 0 < m
            case pos =>
              have m1 : (0 : Int) < (m : Int) := by omega
              go_wp2_with fail
              refine (below_m (m : Int) HI.out.1).mono ?_
              rintro e x7 ⟨y, py, rfl, y0, y1, y2, yp, R_, b_⟩
              replace HI : Hid (InS w r s n c w.heap.size py kk m (.slice t7 kk c7) (.slice t8 m c8) x7) := HI.out.read R_ b_
              clear R_ b_
              obtain ⟨y', rfl⟩ : ∃ y' : Nat, y = (y' : Int) := ⟨y.toNat, by omega⟩
              have ym : y' < m := by omega
              have ymi : (y' : Int) < (m : Int) := by omega
              obtain ⟨g8, c8', z, e8, hz⟩ := HI.out.num ym
              cases e8
              go_wp2_with fail
              refine (l19One_any 1 z _).mono ?_
              rintro e x8 ⟨rfl, b_⟩
              replace HI : Hid (InS w r s n c w.heap.size py kk m (.slice t7 kk c7) (.slice (some ⟨g8, 0, none⟩) m c8) x8) := HI.out.below b_
              clear b_
              go_wp2_with (first | (at_builtin; refine in_one _ _ (by rfl) (by rfl) (by rfl) (by rfl) HI.out (by omega) ?_; intro g9 cap9 w9 h9))
              replace HI : Hid (InS w r s n c w.heap.size py (kk + 1) m (.slice (some ⟨g9, 0, none⟩) (kk + 1) cap9) (.slice (some ⟨g8, 0, none⟩) m c8) w9) := h9
              clear h9
              go_roundw
              case rel => exact ⟨kk + 1, j, d + 1, py, ⟨by have := HJ.out; omega, by have := HJ.out; omega⟩, by omega, by have := HJ.out; omega, by go_num, by go_num, HI⟩
              case measure => simp [lenL]; omega
            case neg =>
              have m1 : ¬ (0 : Int) < (m : Int) := by omega
              go_wp2_with fail
              refine (l19One_any 3 1 _).mono ?_
              rintro e x9 ⟨rfl, b_⟩
              replace HI : Hid (InS w r s n c w.heap.size px kk m (.slice t7 kk c7) (.slice t8 m c8) x9) := HI.out.below b_
              clear b_
              go_wp2_with (first | (at_builtin; refine in_one _ _ (by rfl) (by rfl) (by rfl) (by rfl) HI.out (by omega) ?_; intro g9 cap9 w9 h9))
              replace HI : Hid (InS w r s n c w.heap.size px (kk + 1) m (.slice (some ⟨g9, 0, none⟩) (kk + 1) cap9) (.slice t8 m c8) w9) := h9
              clear h9
              go_roundw
              case rel => exact ⟨kk + 1, j, d + 1, px, ⟨by have := HJ.out; omega, by have := HJ.out; omega⟩, by omega, by have := HJ.out; omega, by go_num, by go_num, HI⟩
              case measure => simp [lenL]; omega
          · skip
            by_cases i0 : 0 < I
            case pos =>
              go_wp2_with fail
              refine (below_m I HI.out.1).mono ?_
              rintro e x10 ⟨y, py, rfl, y0, y1, y2, yp, R_, b_⟩
              replace HI : Hid (InS w r s n c w.heap.size py kk m (.slice t7 kk c7) (.slice t8 m c8) x10) := HI.out.read R_ b_
              clear R_ b_
              go_wp2_with fail
              refine (l19One_any 4 y _).mono ?_
              rintro e x11 ⟨rfl, b_⟩
              replace HI : Hid (InS w r s n c w.heap.size py kk m (.slice t7 kk c7) (.slice t8 m c8) x11) := HI.out.below b_
              clear b_
              go_wp2_with (first | (at_builtin; refine in_one _ _ (by rfl) (by rfl) (by rfl) (by rfl) HI.out (by omega) ?_; intro g9 cap9 w9 h9))
              replace HI : Hid (InS w r s n c w.heap.size py (kk + 1) m (.slice (some ⟨g9, 0, none⟩) (kk + 1) cap9) (.slice t8 m c8) w9) := h9
              clear h9
              go_roundw
              case rel => exact ⟨kk + 1, j, d + 1, py, ⟨by have := HJ.out; omega, by have := HJ.out; omega⟩, by omega, by have := HJ.out; omega, by go_num, by go_num, HI⟩
              case measure => simp [lenL]; omega
            case neg =>
              go_wp2_with fail
              refine (l19One_any 3 1000000 _).mono ?_
              rintro e x12 ⟨rfl, b_⟩
              replace HI : Hid (InS w r s n c w.heap.size px kk m (.slice t7 kk c7) (.slice t8 m c8) x12) := HI.out.below b_
              clear b_
              go_wp2_with (first | (at_builtin; refine in_one _ _ (by rfl) (by rfl) (by rfl) (by rfl) HI.out (by omega) ?_; intro g9 cap9 w9 h9))
              replace HI : Hid (InS w r s n c w.heap.size px (kk + 1) m (.slice (some ⟨g9, 0, none⟩) (kk + 1) cap9) (.slice t8 m c8) w9) := h9
              clear h9
              go_roundw
              case rel => exact ⟨kk + 1, j, d + 1, px, ⟨by have := HJ.out; omega, by have := HJ.out; omega⟩, by omega, by have := HJ.out; omega, by go_num, by go_num, HI⟩
              case measure => simp [lenL]; omega
        case neg =>
          obtain rfl : j = 0 := by omega
          rw [show ((0 : Nat) : Int) = (0 : Int) from rfl]
          have HD : Hid (d = J ∧ kk = k + d) := by have := HJ.out; exact ⟨by omega, this.2⟩
          clear HJ
          clear hj
          go_wp2_with fail
          go_loopw [7, 10] (fun v dd wx => ∃ (kk d px : Nat), dd = .int .i64 (d : Int) ∧ 1 ≤ d ∧ d ≤ 4 ∧ 2 * kk + 2 * d + 16 * q ≤ 208 + px ∧ Hid (InS w r s n c w.heap.size px kk m v (.slice t8 m c8) wx)) (fun v _ _ => 2000000 - lenL v)
          case atStart => exact ⟨kk, d, px0, rfl, by have := HD.out; omega, by have := HD.out; omega, by have := HD.out; omega, HI⟩
          case round =>
            clear HI HD
            obtain ⟨kk, d, px0, rfl, d1, d4, hK, HI⟩ := hrel
            have pxn : px0 ≤ n := HI.out.1.2.2.2.2.1
            have nle : n ≤ 1048576 := HI.out.1.2.2.2.2.2.1
            obtain ⟨⟨t7, c7, e7⟩, -⟩ := HI.out.form
            subst e7
            rename World => wc
            by_cases hd : 1 < d
            case pos =>
              have hdi : (1 : Int) < (d : Int) := by omega
              go_wp2_with fail
              refine (near_m 5 16 (by omega) (by omega) (by omega) (by omega) HI.out.1).mono ?_
              rintro e x14 ⟨op, px, rfl, o0, o1, op1, op2, R_, b_⟩
              replace HI : Hid (InS w r s n c w.heap.size px kk m (.slice t7 kk c7) (.slice t8 m c8) x14) := HI.out.read R_ b_
              clear R_ b_
              have pxn2 : px ≤ n := HI.out.1.2.2.2.2.1
              obtain ⟨tz, htz, tz1, tz3, tzz⟩ : ∃ tz : Nat, (takS op).size = tz ∧ 1 ≤ tz ∧ tz ≤ 3 ∧ (tz = 1 → px0 + 2 ≤ px) := by
                have hc : op = 5 ∨ op = 6 ∨ op = 7 ∨ op = 8 ∨ op = 9 ∨ op = 10 ∨ op = 11 ∨ op = 12 ∨ op = 13 ∨ op = 14 ∨ op = 15 ∨ op = 16 := by omega
                refine ⟨_, rfl, ?_⟩
                rcases hc with rfl | rfl | rfl | rfl | rfl | rfl | rfl | rfl | rfl | rfl | rfl | rfl <;> first | exact ⟨by decide, by decide, fun q => absurd q (by decide)⟩ | exact ⟨by decide, by decide, fun _ => by omega⟩
              clear o0 o1 op2
              go_wp2_with fail
              refine (l18Takes_any op _).mono ?_
              rintro e wd ⟨rfl, rfl⟩
              rename World => wd
              by_cases ht : d < tz
              case pos =>
                have hti : (d : Int) < (tz : Int) := by omega
                have dw : (d : Int) - 2 + 1 = ((d - 1 : Nat) : Int) := by omega
                go_wp2_with fail
                refine (l19One_any 5 9 _).mono ?_
                rintro e x15 ⟨rfl, b_⟩
                replace HI : Hid (InS w r s n c w.heap.size px kk m (.slice t7 kk c7) (.slice t8 m c8) x15) := HI.out.below b_
                clear b_
                go_wp2_with (first | (at_builtin; refine in_one _ _ (by rfl) (by rfl) (by rfl) (by rfl) HI.out (by omega) ?_; intro g9 cap9 w9 h9))
                replace HI : Hid (InS w r s n c w.heap.size px (kk + 1) m (.slice (some ⟨g9, 0, none⟩) (kk + 1) cap9) (.slice t8 m c8) w9) := h9
                clear h9
                go_roundw
                case rel => exact ⟨kk + 1, d - 1, px, by first | rfl | go_num | (congr 1; omega), by omega, by omega, by omega, HI⟩
                case measure => simp [lenL]; omega
              case neg =>
                have hti : ¬ (d : Int) < (tz : Int) := by omega
                have dw : (d : Int) - (tz : Int) + 1 = ((d + 1 - tz : Nat) : Int) := by omega
                go_wp2_with fail
                refine (l19One_any 5 op _).mono ?_
                rintro e x16 ⟨rfl, b_⟩
                replace HI : Hid (InS w r s n c w.heap.size px kk m (.slice t7 kk c7) (.slice t8 m c8) x16) := HI.out.below b_
                clear b_
                go_wp2_with (first | (at_builtin; refine in_one _ _ (by rfl) (by rfl) (by rfl) (by rfl) HI.out (by omega) ?_; intro g9 cap9 w9 h9))
                replace HI : Hid (InS w r s n c w.heap.size px (kk + 1) m (.slice (some ⟨g9, 0, none⟩) (kk + 1) cap9) (.slice t8 m c8) w9) := h9
                clear h9
                go_roundw
                case rel => exact ⟨kk + 1, d + 1 - tz, px, by first | rfl | go_num | (congr 1; omega), by omega, by omega, by omega, HI⟩
                case measure => simp [lenL]; omega
            case neg =>
              have hdi : ¬ (1 : Int) < (d : Int) := by omega
              go_wp2_with (first | (at_builtin; refine in_num _ _ (by rfl) (by rfl) (by rfl) (by rfl) HI.out (by omega) ?_; intro g8 cap8 w8 h8))
              replace HI : Hid (InS w r s n c w.heap.size px0 kk (m + 1) (.slice t7 kk c7) (.slice (some ⟨g8, 0, none⟩) (m + 1) cap8) w8) := h8
              clear h8
              go_wp2_with fail
              refine (l19One_any 6 (m : Int) _).mono ?_
              rintro e x17 ⟨rfl, b_⟩
              replace HI : Hid (InS w r s n c w.heap.size px0 kk (m + 1) (.slice t7 kk c7) (.slice (some ⟨g8, 0, none⟩) (m + 1) cap8) x17) := HI.out.below b_
              clear b_
              go_wp2_with (first | (at_builtin; refine in_one _ _ (by rfl) (by rfl) (by rfl) (by rfl) HI.out (by omega) ?_; intro g9 cap9 w9 h9))
              replace HI : Hid (InS w r s n c w.heap.size px0 (kk + 1) (m + 1) (.slice (some ⟨g9, 0, none⟩) (kk + 1) cap9) (.slice (some ⟨g8, 0, none⟩) (m + 1) cap8) w9) := h9
              clear h9
              go_roundw
              case rel => exact ⟨kk + 1, m + 1, px0, q, by omega, by omega, by omega, by omega, by go_num, HI⟩
              case measure => first | (simp [intOf]; done) | (simp [intOf]; omega)
end Go.Proofs.Ytdidgbibbkhnhaa
