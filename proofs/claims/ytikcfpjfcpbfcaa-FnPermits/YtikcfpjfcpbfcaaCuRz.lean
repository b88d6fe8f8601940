/-
What is proved: (impl.Net).reached answers what a way leads to.
-/
import Derived.Test.YtikcfpjfcpbfcaaZcC
import Derived.Test.YtikcfpjfcpbfcaaCuWz
import Derived.Deep.DeepCutAuto
import Derived.BigQuiet
namespace Go.Proofs.Ytikcfpjfcpbfcaa
set_option maxRecDepth 40000
open Go.ChangeShapes Go.WideShapes Go.ChangeAt Go.RowKit
set_option linter.unusedVariables false
set_option linter.unusedSimpArgs false

open Go.Maps Go.WideMaps
theorem zeroI (w : World) : (zeroValue 2).run Try.prog w = .ok (.int .i64 0) w := by kernel_rfl
set_option maxRecDepth 20000 in
set_option maxHeartbeats 2000000 in
theorem reached_any (P : Nat) (s : Option Addr) (n c : Nat) (D : Nat → Int × Int) (t : Option Addr) (m d : Nat) (S : Nat → Int) (q : Option Addr) (nq cq : Nat) (Q : Nat → Int) (w : World) (hn : (n : Int) ≤ 40) (hm : (m : Int) ≤ 1048576) (hq : (nq : Int) ≤ 1048576) (HD : Hid (RowDuct w s n D)) (HS : Hid (RowI w t m S)) (HQ : Hid (RowI w q nq Q))
    (HE : Hid (∀ j, j < n → (0 ≤ (D j).1 ∧ (D j).1 ≤ 29) ∧ (0 ≤ (D j).2 ∧ (D j).2 ≤ 29) ∧ (D j).1 ≠ (D j).2)) (HI : Hid (∀ j, j < m → 0 ≤ S j ∧ S j ≤ 29)) :
    Calls Try.prog 77 #[.agg #[.int .i64 (P : Int), .slice s n c, .slice t m d], .slice q nq cq] w fun e w' => ∃ v L, e = .returned v ∧ w'.ownsRow w.heap.size 2 1 v L.length (cellsOf L) ∧ Below w.heap.size w w' ∧ L.length ≤ m + n ∧ ∀ x : Nat, (x : Int) ∈ L ↔ Reach n D (hasW Q nq) (hasW S m) x := by
  have HEN : Hid (∀ j, j < n → endA D j < 30 ∧ endB D j < 30) := fun j hj => by have := HE.out j hj; unfold endA endB; omega
  have HRL : Hid (∀ x, Reach n D (hasW Q nq) (hasW S m) x → x < 30) := fun x h => reach_lt HEN.out (fun x hx => by obtain ⟨i, hi, e⟩ := hasW_iff.1 hx; have := HI.out i hi; omega) h
  have HCD : Hid ((m + cntW (opW n (hasW Q nq) n) n) ≤ m + n) := by show _ ≤ _; have := cnt_le (opW n (hasW Q nq) n) n; omega
  have HCC : Hid ((m + cntW (opW n (hasW Q nq) n) n) ≤ 1048616) := by show _ ≤ _; have := cnt_le (opW n (hasW Q nq) n) n; omega
  go_enter Try.func77, Try.ntmps77
  go_upto_region 1 with fail
  go_cut [5, 6] (fun y5 y6 wx => ∃ bm M, y5 = .map (some bm) ∧ Hid (RcAt (w.alloc (.cells #[.int .i64 (P : Int), .slice s n c, .slice t m d] 41)) wx bm (2 * n) M y6 (lsOf S m)) ∧ Hid (ExIs M D (opW n (hasW Q nq) n)))
  case first =>
    go_region_with (first
      | (go_at_call 104; refine (exits_any (P : Int) s n c D t m d q nq cq Q _ hn hq (HD.out.below (by repeat (first | with_reducible exact Below.refl _ _ | with_reducible exact hB4 | with_reducible refine Below.setCell ?_ (by first | omega | (simp; done) | (simp; omega)) _ | with_reducible refine bDrewN ?_ _ | with_reducible refine Below.drew ?_ | with_reducible refine Below.alloc ?_ (by first | omega | (simp; done) | (simp; omega)) _))) (HQ.out.below (by repeat (first | with_reducible exact Below.refl _ _ | with_reducible exact hB4 | with_reducible refine Below.setCell ?_ (by first | omega | (simp; done) | (simp; omega)) _ | with_reducible refine bDrewN ?_ _ | with_reducible refine Below.drew ?_ | with_reducible refine Below.alloc ?_ (by first | omega | (simp; done) | (simp; omega)) _))) HE).mono ?_; rintro e w3 ⟨bm, M, rfl, zm, b3, O3, X3⟩; have B3 : Below (w.alloc (.cells #[.int .i64 (P : Int), .slice s n c, .slice t m d] 41)).heap.size (w.alloc (.cells #[.int .i64 (P : Int), .slice s n c, .slice t m d] 41)) w3 := Below.trans (by repeat (first | with_reducible exact Below.refl _ _ | with_reducible exact B4 | with_reducible refine Below.setCell ?_ (by first | omega | (simp; done) | (simp; omega)) _ | with_reducible refine bDrewN ?_ _ | with_reducible refine Below.drew ?_ | with_reducible refine Below.alloc ?_ (by first | omega | (simp; done) | (simp; omega)) _)) (b3.mono (by first | omega | (simp; done) | (simp; omega))); have HX3 : Hid (ExIs M D (opW n (hasW Q nq) n)) := X3; obtain ⟨e0, e1, e2, ez, hB3⟩ := net_at B3; (first | (have R3 : Hid (RcAt (w.alloc (.cells #[.int .i64 (P : Int), .slice s n c, .slice t m d] 41)) w3 bm (2 * n) M v (lsOf S m)) := rc_of2 O4 hb4 B4 (Below.trans (by repeat (first | with_reducible exact Below.refl _ _ | with_reducible refine Below.setCell ?_ (by first | omega | (simp; done) | (simp; omega)) _ | with_reducible refine bDrewN ?_ _ | with_reducible refine Below.drew ?_ | with_reducible refine Below.alloc ?_ (by first | omega | (simp; done) | (simp; omega)) _)) (b3.mono (by first | omega | (simp; done) | (simp; omega)))) O3 (Nat.le_trans (by first | omega | (simp; done) | (simp; omega)) zm)) | (have zm3 : (w.alloc (.cells #[.int .i64 (P : Int), .slice s n c, .slice t m d] 41)).heap.size ≤ bm := Nat.le_trans (by first | omega | (simp; done) | (simp; omega)) zm)); clear X3 b3)
      | (go_at_call 95; refine (cloneC t m d S _ hm (HS.out.below (by repeat (first | with_reducible exact Below.refl _ _ | with_reducible exact hB3 | with_reducible refine Below.setCell ?_ (by first | omega | (simp; done) | (simp; omega)) _ | with_reducible refine bDrewN ?_ _ | with_reducible refine Below.drew ?_ | with_reducible refine Below.alloc ?_ (by first | omega | (simp; done) | (simp; omega)) _)))).mono ?_; rintro e w4 ⟨v, rfl, O4, b4⟩; have B4 : Below (w.alloc (.cells #[.int .i64 (P : Int), .slice s n c, .slice t m d] 41)).heap.size (w.alloc (.cells #[.int .i64 (P : Int), .slice s n c, .slice t m d] 41)) w4 := Below.trans (by repeat (first | with_reducible exact Below.refl _ _ | with_reducible exact B3 | with_reducible refine Below.setCell ?_ (by first | omega | (simp; done) | (simp; omega)) _ | with_reducible refine bDrewN ?_ _ | with_reducible refine Below.drew ?_ | with_reducible refine Below.alloc ?_ (by first | omega | (simp; done) | (simp; omega)) _)) (b4.mono (by first | omega | (simp; done) | (simp; omega))); obtain ⟨f0, f1, f2, fz, hB4⟩ := net_at B4; (first | (have R3 : Hid (RcAt (w.alloc (.cells #[.int .i64 (P : Int), .slice s n c, .slice t m d] 41)) w4 bm (2 * n) M v (lsOf S m)) := rc_of1 O3 B3 zm3 (Below.trans (by repeat (first | with_reducible exact Below.refl _ _ | with_reducible refine Below.setCell ?_ (by first | omega | (simp; done) | (simp; omega)) _ | with_reducible refine bDrewN ?_ _ | with_reducible refine Below.drew ?_ | with_reducible refine Below.alloc ?_ (by first | omega | (simp; done) | (simp; omega)) _)) (b4.mono (by first | omega | (simp; done) | (simp; omega)))) O4 (by first | omega | (simp; done) | (simp; omega))) | (have hb4 : (w.alloc (.cells #[.int .i64 (P : Int), .slice s n c, .slice t m d] 41)).heap.size ≤ (w.alloc (.cells #[.int .i64 (P : Int), .slice s n c, .slice t m d] 41)).heap.size := Nat.le_refl _)); clear b4))
    all_goals
      go_wp2_with fail
      go_meet
      exact ⟨bm, M, rfl, R3.out.keep (by repeat (first | with_reducible exact Below.refl _ _ | with_reducible refine Below.setCell ?_ (by first | omega | (simp; done) | (simp; omega)) _ | with_reducible refine bDrewN ?_ _ | with_reducible refine Below.drew ?_ | with_reducible refine Below.alloc ?_ (by first | omega | (simp; done) | (simp; omega)) _)), HX3.out⟩
  obtain ⟨bm, M0, rfl, HR0, HX0⟩ := hcut
  rename World => w1
  have zb0 := HR0.out.2.2.2.1
  simp at zb0
  go_wp2_with fail
  go_loopw [6, 7] (fun v i wr => ∃ nx : Nat, ∃ (M : DataW Unit) (L : List Int) (E : Nat → Bool), i = .int .i64 nx ∧ Hid (RcAt (w.alloc (.cells #[.int .i64 (P : Int), .slice s n c, .slice t m d] 41)) wr bm (2 * n) M v L) ∧ Hid (ExIs M D E) ∧ Hid (Went n D (hasW Q nq) (hasW S m) (m + cntW (opW n (hasW Q nq) n) n) L E nx 0)) (fun _ i _ => (m + cntW (opW n (hasW Q nq) n) n) - (intOf i).toNat)
  case atStart => exact ⟨0, M0, lsOf S m, opW n (hasW Q nq) n, rfl, HR0.out, HX0.out, went_op (fun i hi => (HI.out i hi).1)⟩
  case round =>
    clear HR0 HX0
    obtain ⟨nx, M, L, E, rfl, HR, HX, HT⟩ := hrel
    obtain ⟨n0, n1, n2, zn, hB⟩ := net_at HR.out.2.2.2.2
    have zW := hB.size
    have hl := HT.out.len
    have hl2 : L.length ≤ 1048616 := Nat.le_trans hl HCC.out
    obtain ⟨sl, cap, hv, -⟩ := own_OwnI (size := 1) (n := L.length) (U := nthI L) (by rw [Nat.mul_one, vals_nth]; exact HR.out.2.1)
    subst hv
    by_cases h1 : nx < L.length
    case neg =>
      go_wp2
      go_ret
      exact ⟨_, L, rfl, owns_monoC HR.out.2.1 (by simp), hB, Nat.le_trans hl HCD.out, HT.out.all (by omega)⟩
    have k1 : (nx : Int) < (L.length : Int) := by omega
    rename World => w5
    go_wp2_with fail
    go_loopw [6, 27] (fun v i wr => ∃ j : Nat, ∃ (M : DataW Unit) (L : List Int) (E : Nat → Bool), j ≤ n ∧ i = .int .i64 j ∧ Hid (RcAt (w.alloc (.cells #[.int .i64 (P : Int), .slice s n c, .slice t m d] 41)) wr bm (2 * n) M v L) ∧ Hid (ExIs M D E) ∧ Hid (Went n D (hasW Q nq) (hasW S m) (m + cntW (opW n (hasW Q nq) n) n) L E nx j) ∧ nx < L.length) (fun _ i _ => n - (intOf i).toNat)
    case atStart => exact ⟨0, M, L, E, Nat.zero_le _, rfl, HR.out, HX.out, HT.out, h1⟩
    case round =>
      clear n0 n1 n2 zn hB zW hl hl2 k1 h1 HR HX HT
      obtain ⟨j, M, L, E, hj, rfl, HR, HX, HT, h1⟩ := hrel
      obtain ⟨n0, n1, n2, zn, hB⟩ := net_at HR.out.2.2.2.2
      have zW := hB.size
      have hl := HT.out.len
      have hl2 : L.length ≤ 1048616 := Nat.le_trans hl HCC.out
      have HL : Hid (L.length ≤ (m + cntW (opW n (hasW Q nq) n) n)) := hl
      clear hl
      by_cases h2 : j < n
      case neg =>
        have HT2 : Hid (Went n D (hasW Q nq) (hasW S m) (m + cntW (opW n (hasW Q nq) n) n) L E (nx + 1) 0) := HT.out.next (by omega) h1
        go_wp2
        go_roundw
        case rel => exact ⟨nx + 1, M, L, E, by go_num, HR.out, HX.out, HT2.out⟩
        case measure => have := HL.out; first | (simp [intOf]; done) | (simp [intOf]; omega)
      have j1 : (j : Int) < (n : Int) := by omega
      obtain ⟨sl2, cap2, hv, O⟩ := own_OwnI (size := 1) (n := L.length) (U := nthI L) (by rw [Nat.mul_one, vals_nth]; exact HR.out.2.1)
      subst hv
      rw [Nat.mul_one] at O
      obtain ⟨g, e1, -, gz, gc, -⟩ := O nx h1
      subst e1
      obtain ⟨y, hy, hr⟩ := HT.out.sound _ (nthI_mem h1)
      have y30 := HRL.out y hr
      rw [hy] at gc
      have HY : Hid (nthI L nx = (y : Int)) := hy
      clear O hy hr
      have k1 : (nx : Int) < (L.length : Int) := by omega
      obtain ⟨x1, x2⟩ := HX.out.2 y j (by omega) (by omega)
      cases hs : Maps.has M (exL y j)
      · have HT2 : Hid (Went n D (hasW Q nq) (hasW S m) (m + cntW (opW n (hasW Q nq) n) n) L E nx (j + 1)) := HT.out.skip fun hE ha => by
          rw [hs, hE] at x1
          rw [HY.out] at ha
          rcases ha with ha | ha <;> simp [show y = _ from by exact_mod_cast ha] at x1
        clear x1 x2
        go_wp2_with (first | (at_lookup; refine wpList_lookup_own_ok_int _ rfl _ _ 126 rfl 129 2 .i64 exLaw Try.underlying126 Try.underlying2 (zeroI _) bm (2 * n) M rfl (HR.out.1.alloc _) _ _ rfl (exKeyN (x := y) (v := j) (by omega) (by omega)) ?_; intro cc hat hwc; rw [hs]))
        go_roundw
        case rel => exact ⟨j + 1, M, L, E, by omega, by go_num, HR.out.keep (by repeat (first | with_reducible exact Below.refl _ _ | with_reducible refine Below.setCell ?_ (by first | omega | (simp; done) | (simp; omega)) _ | with_reducible refine bDrewN ?_ _ | with_reducible refine Below.drew ?_ | with_reducible refine Below.alloc ?_ (by first | omega | (simp; done) | (simp; omega)) _)), HX.out, HT2.out, h1⟩
        case measure => first | (simp [intOf]; done) | (simp [intOf]; omega)
      · have hE : E j = true := by rw [hs] at x1; revert x1; cases E j <;> simp
        obtain ⟨z, hz, z30⟩ : ∃ z : Nat, ((y = endA D j ∧ z = endB D j) ∨ (y = endB D j ∧ z = endA D j)) ∧ z < 30 := by
          rw [hs, hE] at x1
          simp only [Bool.true_and] at x1
          have := x1.symm
          simp only [Bool.or_eq_true, beq_iff_eq] at this
          rcases this with e | e
          · exact ⟨endB D j, .inl ⟨e, rfl⟩, (HEN.out j h2).2⟩
          · exact ⟨endA D j, .inr ⟨e, rfl⟩, (HEN.out j h2).1⟩
        have HC : Hid (∀ cc : Int, M.atKey (exL y j) (.lit (.int .i64 0)) = .lit (.int .i64 cc) → cc = (z : Int)) := fun cc h => by
          have a := x2 hE (.lit (.int .i64 0))
          rcases hz with ⟨e1, e2⟩ | ⟨e1, e2⟩
          · rw [a.1 e1] at h; simp at h; rw [e2]; exact h.symm
          · rw [a.2 e1] at h; simp at h; rw [e2]; exact h.symm
        have HT2 : Hid (Went n D (hasW Q nq) (hasW S m) (m + cntW (opW n (hasW Q nq) n) n) (L ++ [(z : Int)]) (offW E j) nx (j + 1)) := HT.out.take (y := (y : Int)) h2 h1 hE HY.out (hz.imp (fun e => ⟨by rw [e.1], by rw [e.2]⟩) (fun e => ⟨by rw [e.1], by rw [e.2]⟩))
        have HX2 : Hid (ExIs ((M.del (exL y j)).del (exL z j)) D (offW E j)) := HX.out.drop (by omega) (by omega) (by omega) hz
        have tok1 : True := trivial
        clear x1 x2 hz hE
        go_wp2_with (first
          | (at_lookup; refine wpList_lookup_own_ok_int _ rfl _ _ 126 rfl 129 2 .i64 exLaw Try.underlying126 Try.underlying2 (zeroI _) bm (2 * n) M rfl (HR.out.1.alloc _) _ _ rfl (exKeyN (x := y) (v := j) (by omega) (by omega)) ?_; intro cc hat hwc; have hcc := HC.out cc hat; subst hcc; rw [hs])
          | (at_delete; have _t := tok1; refine wpList_delete_own _ rfl _ _ 126 129 rfl 2 exLaw Try.underlying126 _ bm (2 * n) M rfl (HR.out.1.alloc _) _ _ rfl (exKeyN (x := y) (v := j) (by omega) (by omega)) ?_; intro w6 hown6 hturn6; have R6 := (HR.out.keep (by repeat (first | with_reducible exact Below.refl _ _ | with_reducible refine Below.setCell ?_ (by first | omega | (simp; done) | (simp; omega)) _ | with_reducible refine bDrewN ?_ _ | with_reducible refine Below.drew ?_ | with_reducible refine Below.alloc ?_ (by first | omega | (simp; done) | (simp; omega)) _))).turn hown6 hturn6.grown; clear tok1)
          | (at_delete; refine wpList_delete_own _ rfl _ _ 126 129 rfl 2 exLaw Try.underlying126 _ bm (2 * n) _ rfl hown6 _ _ rfl (exKeyN (x := z) (v := j) (by omega) (by omega)) ?_; intro w7 hown7 hturn7; have R7 := R6.turn hown7 hturn7.grown; have zz7 := R7.2.2.2.2.size)
          | (at_builtin; refine list_i64h _ _ L.length (cellsOf L) (.tmp 50) (.tmp 52) (by rfl) (by rfl) (by rfl) (by rfl) R7.2.1 (by omega) zz7 ?_; intro g' cap' w8 hown8 hgrow8 hlt8 hat8))
        have R8 := R7.more hown8 hgrow8 hat8
        go_roundw
        case rel => exact ⟨j + 1, _, L ++ [(z : Int)], offW E j, by omega, by go_num, R8, HX2.out, HT2.out, by simp; omega⟩
        case measure => first | (simp [intOf]; done) | (simp [intOf]; omega)
end Go.Proofs.Ytikcfpjfcpbfcaa
