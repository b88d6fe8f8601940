/-
What is proved: machines that are drawn from a code: any int64s, at most 61 of them.
-/
import Derived.Test.YtcialcejmjggeaaLsMch
import Derived.Test.YtcialcejmjggeaaSiz
import Derived.Test.YtcialcejmjggeaaRdO
import Derived.Test.YtcialcejmjggeaaRdC
import Derived.Deep.DeepCutAuto
import Derived.RegionTactic
namespace Go.Proofs.Ytcialcejmjggeaa
set_option maxRecDepth 40000
open Go.ChangeShapes Go.WideShapes Go.ChangeAt Go.RowKit
set_option linter.unusedVariables false
set_option linter.unusedSimpArgs false

def lenM : Value → Nat
  | .slice _ n _ => n
  | _ => 0
theorem lst_len {base : Nat} {T : TypeId} {M : Nat} {w : World} {v : Value} {k : Nat} {U : Nat → Int} (h : Lst base T M w v k U) : lenM v = k := by
  rcases h.2 with ⟨rfl, rfl⟩ | ⟨g, cap, cur, rfl, _⟩ <;> rfl
theorem lst_lb {base b0 : Nat} {T : TypeId} {M : Nat} {w : World} {t : Option Addr} {k cap : Nat} {U : Nat → Int} (hb : b0 ≤ base) (h : Lst base T M w (.slice t k cap) k U) {g o : Nat} (e : t = some ⟨g, o, none⟩) : b0 ≤ g := by
  subst e
  exact Nat.le_trans hb (World.ownsRow.lt h g rfl).1
theorem ownB_besideM {base r : Nat} {w w' : World} {s : Option Addr} {m : Nat} {V : Nat → Int} (h : OwnI base w s m V) (hb : Beside r w w') (hr : r < base) : OwnI base w' s m V := fun j hj => by
  obtain ⟨b, e, hB, hl, hc, hf⟩ := h j hj
  exact ⟨b, e, hB, Nat.lt_of_lt_of_le hl hb.2.2.2.1, (hb.cell (p := ⟨b, j, none⟩) hl (by simp only; omega)).trans hc, (hb.frozen (p := ⟨b, j, none⟩) hl (by simp only; omega)).trans hf⟩
theorem OwnI.putM {base g m : Nat} {w : World} {V : Nat → Int} (h : OwnI base w (some ⟨g, 0, none⟩) m V) (i : Nat) (x : Int) : OwnI base (w.setCell ⟨g, i, none⟩ (.int .i64 x)) (some ⟨g, 0, none⟩) m (fun j => if j = i then x else V j) := fun j hj => by
  obtain ⟨b, e, hB, hl, hc, hf⟩ := h j hj
  cases e
  refine ⟨g, rfl, hB, by simpa using hl, ?_, by simp [go_sem, hf]⟩
  by_cases q : j = i
  · subst q; simp [go_sem, hc]
  · simp [go_sem, hc, q]
def MchPost (r : Nat) (s : Option Addr) (n c : Nat) (w : World) (e : Ending) (w' : World) : Prop := ∃ (t : Option Addr) (m cap : Nat) (U : Nat → Int) (p' : Nat), e = .returned (.slice t m cap) ∧ m ≤ 61 ∧ RowI w' t (m * 4) U ∧ (∀ g o, t = some ⟨g, o, none⟩ → w.heap.size ≤ g) ∧ Rd w' r s n c p' ∧ Beside r w w'
set_option maxRecDepth 20000 in
set_option maxHeartbeats 8000000 in
theorem machines_any {r : Nat} {s : Option Addr} {n c p : Nat} {w : World} (h : Hid (Rd w r s n c p)) :
    Calls Try.prog 43 #[.pointer (some ⟨r, 0, none⟩)] w fun e w' => MchPost r s n c w e w' := by
  have zr : r < w.heap.size := h.out.1
  have HR : Hid (Rd w r s n c p) := h
  have HS : Hid (Beside r w w) := Beside.of (Below.refl _ _)
  clear h
  go_enter Try.func43, Try.ntmps43
  go_upto_region 2 with fail
  have sz_ : w.heap.size ≤ w.heap.size := HS.out.2.2.2.1
  have zr_ : r < w.heap.size := HR.out.1
  obtain ⟨w1, hw_⟩ : ∃ x_, x_ = w.alloc (.cells #[] 41) := ⟨_, rfl⟩
  rw [← hw_]
  have bl_ : Below w.heap.size w w1 := by rw [hw_]; exact below0 _ _
  obtain ⟨bo, hbo⟩ : ∃ g, g = w.heap.size := ⟨_, rfl⟩
  have Ho : Hid (Lst bo 41 4 w1 (.slice (some ⟨bo, 0, none⟩) 0 0) 0 (fun _ => 0)) := by show Lst _ _ _ _ _ _ _; rw [hw_, hbo]; exact Lst.lit w _ 41 41 4 _ (Nat.le_refl _)
  replace HR : Hid (Rd w1 r s n c p) := HR.out.below bl_
  replace HS : Hid (Beside r w w1) := HS.out.onB (bl_.mono sz_)
  have lbo : w.heap.size ≤ bo := by omega
  have rbo : r < bo := by omega
  have zso : bo < w1.heap.size := by rw [hw_, hbo]; simp
  have Zo : Hid (bo ≤ w1.heap.size) := by show _ ≤ _; have := bl_.size; omega
  try rw [← hbo]
  clear hw_ hbo bl_ sz_ zr_ 
  go_wp2_with fail
  refine (size_any 8 14 (by omega) (by omega) (by omega) (by omega) (HR.out.below (by repeat (first | with_reducible exact Below.refl _ _ | with_reducible refine Below.setCell ?_ (by first | omega | (simp; done) | (simp; omega)) _ | with_reducible refine bDrewN ?_ _ | with_reducible refine Below.drew ?_ | with_reducible refine Below.alloc ?_ (by first | omega | (simp; done) | (simp; omega)) _)))).mono ?_
  rintro e w2 ⟨N, pN, rfl, N0, N1, R_, b_⟩
  have sz_ : w.heap.size ≤ w1.heap.size := HS.out.2.2.2.1
  have zr_ : r < w1.heap.size := HR.out.1
  have bb : Beside r w1 w2 := (Beside.of (show Below w1.heap.size w1 _ from (by repeat (first | with_reducible exact Below.refl _ _ | with_reducible refine Below.setCell ?_ (by first | omega | (simp; done) | (simp; omega)) _ | with_reducible refine bDrewN ?_ _ | with_reducible refine Below.drew ?_ | with_reducible refine Below.alloc ?_ (by first | omega | (simp; done) | (simp; omega)) _)))).trans b_
  replace Ho : Hid (Lst bo 41 4 w2 (.slice (some ⟨bo, 0, none⟩) 0 0) 0 (fun _ => 0)) := Ho.out.beside bb (by omega)
  replace Zo : Hid (bo ≤ w2.heap.size) := Nat.le_trans Zo.out bb.2.2.2.1
  replace HS : Hid (Beside r w w2) := HS.out.trans bb
  replace HR : Hid (Rd w2 r s n c pN) := R_
  clear R_
  clear bb b_ sz_ zr_ 
  go_wp2_with fail
  go_loopw [3, 4] (fun v i wr => ∃ (k : Nat) (U : Nat → Int) (p5 : Nat), (k : Int) ≤ N ∧ i = .int .i64 (N - k) ∧ Hid (Rd wr r s n c p5) ∧ Hid (Beside r w wr) ∧ Hid (Lst bo 41 4 wr v k U) ∧ Hid (bo ≤ wr.heap.size)) (fun _ i _ => (intOf i).toNat)
  case atStart => exact ⟨0, fun _ => 0, pN, by omega, by simp, HR, HS, Ho, Zo⟩
  case round =>
    clear HR HS Ho Zo
    obtain ⟨k, U, p5, hk, rfl, HR, HS, Ho, Zo⟩ := hrel
    by_cases hlt : (k : Int) < N
    case pos =>
      have q0 : 0 < N - (k : Int) := by omega
      go_wp2_with fail
      refine (near_any 0 90 (by omega) (by omega) (by omega) (HR.out.below (by repeat (first | with_reducible exact Below.refl _ _ | with_reducible refine Below.setCell ?_ (by first | omega | (simp; done) | (simp; omega)) _ | with_reducible refine bDrewN ?_ _ | with_reducible refine Below.drew ?_ | with_reducible refine Below.alloc ?_ (by first | omega | (simp; done) | (simp; omega)) _)))).mono ?_
      rintro e w3 ⟨a0, pa0, rfl, a0a, a0b, R_, b_⟩
      have sz_ : w.heap.size ≤ wr.heap.size := HS.out.2.2.2.1
      have zr_ : r < wr.heap.size := HR.out.1
      have bb : Beside r wr w3 := (Beside.of (show Below wr.heap.size wr _ from (by repeat (first | with_reducible exact Below.refl _ _ | with_reducible refine Below.setCell ?_ (by first | omega | (simp; done) | (simp; omega)) _ | with_reducible refine bDrewN ?_ _ | with_reducible refine Below.drew ?_ | with_reducible refine Below.alloc ?_ (by first | omega | (simp; done) | (simp; omega)) _)))).trans b_
      replace Ho : Hid (Lst bo 41 4 w3 u3 k U) := Ho.out.beside bb (by omega)
      replace Zo : Hid (bo ≤ w3.heap.size) := Nat.le_trans Zo.out bb.2.2.2.1
      replace HS : Hid (Beside r w w3) := HS.out.trans bb
      replace HR : Hid (Rd w3 r s n c pa0) := R_
      clear R_
      clear bb b_ sz_ zr_ 
      go_wp2_with fail
      refine (near_any 0 200 (by omega) (by omega) (by omega) (HR.out.below (by repeat (first | with_reducible exact Below.refl _ _ | with_reducible refine Below.setCell ?_ (by first | omega | (simp; done) | (simp; omega)) _ | with_reducible refine bDrewN ?_ _ | with_reducible refine Below.drew ?_ | with_reducible refine Below.alloc ?_ (by first | omega | (simp; done) | (simp; omega)) _)))).mono ?_
      rintro e w4 ⟨a1, pa1, rfl, a1a, a1b, R_, b_⟩
      have sz_ : w.heap.size ≤ w3.heap.size := HS.out.2.2.2.1
      have zr_ : r < w3.heap.size := HR.out.1
      have bb : Beside r w3 w4 := (Beside.of (show Below w3.heap.size w3 _ from (by repeat (first | with_reducible exact Below.refl _ _ | with_reducible refine Below.setCell ?_ (by first | omega | (simp; done) | (simp; omega)) _ | with_reducible refine bDrewN ?_ _ | with_reducible refine Below.drew ?_ | with_reducible refine Below.alloc ?_ (by first | omega | (simp; done) | (simp; omega)) _)))).trans b_
      replace Ho : Hid (Lst bo 41 4 w4 u3 k U) := Ho.out.beside bb (by omega)
      replace Zo : Hid (bo ≤ w4.heap.size) := Nat.le_trans Zo.out bb.2.2.2.1
      replace HS : Hid (Beside r w w4) := HS.out.trans bb
      replace HR : Hid (Rd w4 r s n c pa1) := R_
      clear R_
      clear bb b_ sz_ zr_ 
      go_wp2_with fail
      refine (near_any 1 6 (by omega) (by omega) (by omega) (HR.out.below (by repeat (first | with_reducible exact Below.refl _ _ | with_reducible refine Below.setCell ?_ (by first | omega | (simp; done) | (simp; omega)) _ | with_reducible refine bDrewN ?_ _ | with_reducible refine Below.drew ?_ | with_reducible refine Below.alloc ?_ (by first | omega | (simp; done) | (simp; omega)) _)))).mono ?_
      rintro e w5 ⟨a2, pa2, rfl, a2a, a2b, R_, b_⟩
      have sz_ : w.heap.size ≤ w4.heap.size := HS.out.2.2.2.1
      have zr_ : r < w4.heap.size := HR.out.1
      have bb : Beside r w4 w5 := (Beside.of (show Below w4.heap.size w4 _ from (by repeat (first | with_reducible exact Below.refl _ _ | with_reducible refine Below.setCell ?_ (by first | omega | (simp; done) | (simp; omega)) _ | with_reducible refine bDrewN ?_ _ | with_reducible refine Below.drew ?_ | with_reducible refine Below.alloc ?_ (by first | omega | (simp; done) | (simp; omega)) _)))).trans b_
      replace Ho : Hid (Lst bo 41 4 w5 u3 k U) := Ho.out.beside bb (by omega)
      replace Zo : Hid (bo ≤ w5.heap.size) := Nat.le_trans Zo.out bb.2.2.2.1
      replace HS : Hid (Beside r w w5) := HS.out.trans bb
      replace HR : Hid (Rd w5 r s n c pa2) := R_
      clear R_
      clear bb b_ sz_ zr_ 
      go_wp2_with fail
      refine (near_any 1 4 (by omega) (by omega) (by omega) (HR.out.below (by repeat (first | with_reducible exact Below.refl _ _ | with_reducible refine Below.setCell ?_ (by first | omega | (simp; done) | (simp; omega)) _ | with_reducible refine bDrewN ?_ _ | with_reducible refine Below.drew ?_ | with_reducible refine Below.alloc ?_ (by first | omega | (simp; done) | (simp; omega)) _)))).mono ?_
      rintro e w6 ⟨a3, pa3, rfl, a3a, a3b, R_, b_⟩
      have sz_ : w.heap.size ≤ w5.heap.size := HS.out.2.2.2.1
      have zr_ : r < w5.heap.size := HR.out.1
      have bb : Beside r w5 w6 := (Beside.of (show Below w5.heap.size w5 _ from (by repeat (first | with_reducible exact Below.refl _ _ | with_reducible refine Below.setCell ?_ (by first | omega | (simp; done) | (simp; omega)) _ | with_reducible refine bDrewN ?_ _ | with_reducible refine Below.drew ?_ | with_reducible refine Below.alloc ?_ (by first | omega | (simp; done) | (simp; omega)) _)))).trans b_
      replace Ho : Hid (Lst bo 41 4 w6 u3 k U) := Ho.out.beside bb (by omega)
      replace Zo : Hid (bo ≤ w6.heap.size) := Nat.le_trans Zo.out bb.2.2.2.1
      replace HS : Hid (Beside r w w6) := HS.out.trans bb
      replace HR : Hid (Rd w6 r s n c pa3) := R_
      clear R_
      clear bb b_ sz_ zr_ 
      have zl_ : bo ≤ w6.heap.size := Zo.out
      go_wp2_with (at_builtin; refine list_Machine bo u3 k U (.tmp 13) (.tmp 23) (by rfl) (by rfl) (by rfl) (by rfl) Ho.out (by omega) (by omega) ?_; intro g9 cap9 w7 l9 b9)
      have No : Hid (Lst bo 41 4 w7 (.slice (some ⟨g9, 0, none⟩) (k + 1) cap9) (k + 1) (putL U 4 k [a0, a1, a2, a3])) := l9
      clear zl_ l9
      replace Zo : Hid (bo ≤ w7.heap.size) := Nat.le_trans Zo.out b9.size
      replace HR : Hid (Rd w7 r s n c pa3) := Rd.below' HR.out (b9.mono (by omega))
      replace HS : Hid (Beside r w w7) := HS.out.onB (b9.mono (by omega))
      replace Ho := No
      clear b9
      go_roundw
      case rel => exact ⟨k + 1, _, pa3, by omega, by congr 1; omega, HR, HS, Ho, Zo⟩
      case measure => simp [intOf]; omega
    case neg =>
      obtain rfl : (k : Int) = N := by omega
      rename World => wl
      have k21 : k ≤ 15 := by omega
      have k1 : 1 ≤ k := by omega
      clear hk hlt N0 N1
      go_wp2_with fail
      refine (below_any 30 (HR.out.below (by repeat (first | with_reducible exact Below.refl _ _ | with_reducible refine Below.setCell ?_ (by first | omega | (simp; done) | (simp; omega)) _ | with_reducible refine bDrewN ?_ _ | with_reducible refine Below.drew ?_ | with_reducible refine Below.alloc ?_ (by first | omega | (simp; done) | (simp; omega)) _)))).mono ?_
      rintro e w3 ⟨kk, pk, rfl, kk0, kk1, kk2, R_, b_⟩
      have sz_ : w.heap.size ≤ wl.heap.size := HS.out.2.2.2.1
      have zr_ : r < wl.heap.size := HR.out.1
      have bb : Beside r wl w3 := (Beside.of (show Below wl.heap.size wl _ from (by repeat (first | with_reducible exact Below.refl _ _ | with_reducible refine Below.setCell ?_ (by first | omega | (simp; done) | (simp; omega)) _ | with_reducible refine bDrewN ?_ _ | with_reducible refine Below.drew ?_ | with_reducible refine Below.alloc ?_ (by first | omega | (simp; done) | (simp; omega)) _)))).trans b_
      replace Ho : Hid (Lst bo 41 4 w3 u3 k U) := Ho.out.beside bb (by omega)
      replace Zo : Hid (bo ≤ w3.heap.size) := Nat.le_trans Zo.out bb.2.2.2.1
      replace HS : Hid (Beside r w w3) := HS.out.trans bb
      replace HR : Hid (Rd w3 r s n c pk) := R_
      clear R_
      clear bb b_ sz_ zr_ 
      clear kk1 kk2
      by_cases e4 : kk = 4
      case pos =>
        subst e4
        go_wp2_with fail
        refine (below_any 2 (HR.out.below (by repeat (first | with_reducible exact Below.refl _ _ | with_reducible refine Below.setCell ?_ (by first | omega | (simp; done) | (simp; omega)) _ | with_reducible refine bDrewN ?_ _ | with_reducible refine Below.drew ?_ | with_reducible refine Below.alloc ?_ (by first | omega | (simp; done) | (simp; omega)) _)))).mono ?_
        rintro e w4 ⟨z, pz, rfl, z0, z1, z2, R_, b_⟩
        have sz_ : w.heap.size ≤ w3.heap.size := HS.out.2.2.2.1
        have zr_ : r < w3.heap.size := HR.out.1
        have bb : Beside r w3 w4 := (Beside.of (show Below w3.heap.size w3 _ from (by repeat (first | with_reducible exact Below.refl _ _ | with_reducible refine Below.setCell ?_ (by first | omega | (simp; done) | (simp; omega)) _ | with_reducible refine bDrewN ?_ _ | with_reducible refine Below.drew ?_ | with_reducible refine Below.alloc ?_ (by first | omega | (simp; done) | (simp; omega)) _)))).trans b_
        replace Ho : Hid (Lst bo 41 4 w4 u3 k U) := Ho.out.beside bb (by omega)
        replace Zo : Hid (bo ≤ w4.heap.size) := Nat.le_trans Zo.out bb.2.2.2.1
        replace HS : Hid (Beside r w w4) := HS.out.trans bb
        replace HR : Hid (Rd w4 r s n c pz) := R_
        clear R_
        clear bb b_ sz_ zr_ 
        have z3 : z ≤ 1 := by omega
        clear z1 z2
        go_wp2_with fail
        go_loopw [3] (fun v wr => ∃ (j : Nat) (U : Nat → Int) (p5 : Nat), (j : Int) ≤ 60 + z ∧ lenM v = j ∧ Hid (Rd wr r s n c p5) ∧ Hid (Beside r w wr) ∧ Hid (Lst bo 41 4 wr v j U) ∧ Hid (bo ≤ wr.heap.size)) (fun v _ => ((60 + z) - (lenM v : Int)).toNat)
        case atStart => exact ⟨k, U, pz, by omega, lst_len Ho.out, HR, HS, Ho, Zo⟩
        case round =>
          clear HR HS Ho Zo
          obtain ⟨j, U2, p6, hj, hlen, HR, HS, Ho, Zo⟩ := hrel
          obtain ⟨t1, cap, eu, OW⟩ := Ho.out.own
          have EU : Hid (u3 = .slice t1 j cap) := eu
          subst eu
          clear hlen EU
          by_cases hlt2 : (j : Int) < 60 + z
          case pos =>
            clear OW
            have zl_ : bo ≤ wr.heap.size := Zo.out
            go_wp2_with (at_builtin; refine list_Machine bo (.slice t1 j cap) j U2 (.tmp 61) (.tmp 63) (by rfl) (by rfl) (by rfl) (by rfl) Ho.out (by omega) (by omega) ?_; intro g9 cap9 w5 l9 b9)
            have No : Hid (Lst bo 41 4 w5 (.slice (some ⟨g9, 0, none⟩) (j + 1) cap9) (j + 1) (putL U2 4 j [1, 20, 20, 9])) := l9
            clear zl_ l9
            replace Zo : Hid (bo ≤ w5.heap.size) := Nat.le_trans Zo.out b9.size
            replace HR : Hid (Rd w5 r s n c p6) := Rd.below' HR.out (b9.mono (by omega))
            replace HS : Hid (Beside r w w5) := HS.out.onB (b9.mono (by omega))
            replace Ho := No
            clear b9
            go_roundw
            case rel => exact ⟨j + 1, _, p6, by omega, rfl, HR, HS, Ho, Zo⟩
            case measure => simp [lenM]; omega
          case neg =>
            have ROW : Hid (RowI wr t1 (j * 4) U2) := OW.row
            have LB : Hid (∀ g o, t1 = some ⟨g, o, none⟩ → w.heap.size ≤ g) := fun g o e => lst_lb lbo Ho.out e
            clear OW Ho
            go_wp2
            go_ret
            unfold MchPost
            exact ⟨t1, j, cap, U2, p6, rfl, by omega, ROW.out, LB.out, HR.out, HS.out⟩
      case neg =>
        have ne4 : (kk == 4) = false := by simpa using e4
        obtain ⟨t1, cap, eu, OW⟩ := Ho.out.own
        cases eu
        obtain ⟨g, rfl, gb, -, -, -⟩ := OW 0 (by omega)
        have HO : Hid (OwnI bo w3 (some ⟨g, 0, none⟩) (k * 4) U) := OW
        clear OW Ho Zo
        have lbg : w.heap.size ≤ g := Nat.le_trans lbo gb
        have rg : r < g := by omega
        by_cases e0 : kk = 0
        case pos =>
          subst e0
          go_wp2_with fail
          refine (off_any 1 20 (by omega) (by omega) (by omega) (HR.out.below (by repeat (first | with_reducible exact Below.refl _ _ | with_reducible refine Below.setCell ?_ (by first | omega | (simp; done) | (simp; omega)) _ | with_reducible refine bDrewN ?_ _ | with_reducible refine Below.drew ?_ | with_reducible refine Below.alloc ?_ (by first | omega | (simp; done) | (simp; omega)) _)))).mono ?_
          rintro e w4 ⟨m9, pm, rfl, m90, R_, b_⟩
          have sz_ : w.heap.size ≤ w3.heap.size := HS.out.2.2.2.1
          have zr_ : r < w3.heap.size := HR.out.1
          have bb : Beside r w3 w4 := (Beside.of (show Below w3.heap.size w3 _ from (by repeat (first | with_reducible exact Below.refl _ _ | with_reducible refine Below.setCell ?_ (by first | omega | (simp; done) | (simp; omega)) _ | with_reducible refine bDrewN ?_ _ | with_reducible refine Below.drew ?_ | with_reducible refine Below.alloc ?_ (by first | omega | (simp; done) | (simp; omega)) _)))).trans b_
          replace HS : Hid (Beside r w w4) := HS.out.trans bb
          replace HR : Hid (Rd w4 r s n c pm) := R_
          clear R_
          replace HO : Hid (OwnI bo w4 (some ⟨g, 0, none⟩) (k * 4) U) := ownB_besideM HO.out bb (by omega)
          clear bb b_ sz_ zr_ 
          obtain ⟨gg_, eg_, -, zz_a, cea, cfa⟩ := HO.out 2 (by omega)
          cases eg_
          have zk : (0 : Int) < (k : Int) := by omega
          have OF : Hid (RowI (w4.setCell ⟨g, 2, none⟩ (.int .i64 m9)) (some ⟨g, 0, none⟩) (k * 4) _) := (OwnI.putM HO.out 2 m9).row
          have RF : Hid (Rd (w4.setCell ⟨g, 2, none⟩ (.int .i64 m9)) r s n c pm) := Rd.below' HR.out (show Below (r + 1) w4 _ from (by repeat (first | with_reducible exact Below.refl _ _ | with_reducible refine Below.setCell ?_ (by first | omega | (simp; done) | (simp; omega)) _ | with_reducible refine bDrewN ?_ _ | with_reducible refine Below.drew ?_ | with_reducible refine Below.alloc ?_ (by first | omega | (simp; done) | (simp; omega)) _)))
          have SF : Hid (Beside r w (w4.setCell ⟨g, 2, none⟩ (.int .i64 m9))) := HS.out.onB (show Below w.heap.size w4 _ from (by repeat (first | with_reducible exact Below.refl _ _ | with_reducible refine Below.setCell ?_ (by first | omega | (simp; done) | (simp; omega)) _ | with_reducible refine bDrewN ?_ _ | with_reducible refine Below.drew ?_ | with_reducible refine Below.alloc ?_ (by first | omega | (simp; done) | (simp; omega)) _)))
          clear HO HR HS
          go_wp2
          go_ret
          unfold MchPost
          exact ⟨some ⟨g, 0, none⟩, k, cap, _, pm, rfl, by omega, OF.out, (fun g2 o2 e => by cases e; exact lbg), RF.out, SF.out⟩
        case neg =>
          have ne0 : (kk == 0) = false := by simpa using e0
          by_cases e1 : kk = 1
          case pos =>
            subst e1
            go_wp2_with fail
            refine (off_any 1 9 (by omega) (by omega) (by omega) (HR.out.below (by repeat (first | with_reducible exact Below.refl _ _ | with_reducible refine Below.setCell ?_ (by first | omega | (simp; done) | (simp; omega)) _ | with_reducible refine bDrewN ?_ _ | with_reducible refine Below.drew ?_ | with_reducible refine Below.alloc ?_ (by first | omega | (simp; done) | (simp; omega)) _)))).mono ?_
            rintro e w4 ⟨m9, pm, rfl, m90, R_, b_⟩
            have sz_ : w.heap.size ≤ w3.heap.size := HS.out.2.2.2.1
            have zr_ : r < w3.heap.size := HR.out.1
            have bb : Beside r w3 w4 := (Beside.of (show Below w3.heap.size w3 _ from (by repeat (first | with_reducible exact Below.refl _ _ | with_reducible refine Below.setCell ?_ (by first | omega | (simp; done) | (simp; omega)) _ | with_reducible refine bDrewN ?_ _ | with_reducible refine Below.drew ?_ | with_reducible refine Below.alloc ?_ (by first | omega | (simp; done) | (simp; omega)) _)))).trans b_
            replace HS : Hid (Beside r w w4) := HS.out.trans bb
            replace HR : Hid (Rd w4 r s n c pm) := R_
            clear R_
            replace HO : Hid (OwnI bo w4 (some ⟨g, 0, none⟩) (k * 4) U) := ownB_besideM HO.out bb (by omega)
            clear bb b_ sz_ zr_ 
            obtain ⟨gg_, eg_, -, zz_a, cea, cfa⟩ := HO.out 3 (by omega)
            cases eg_
            have zk : (0 : Int) < (k : Int) := by omega
            have OF : Hid (RowI (w4.setCell ⟨g, 3, none⟩ (.int .i64 m9)) (some ⟨g, 0, none⟩) (k * 4) _) := (OwnI.putM HO.out 3 m9).row
            have RF : Hid (Rd (w4.setCell ⟨g, 3, none⟩ (.int .i64 m9)) r s n c pm) := Rd.below' HR.out (show Below (r + 1) w4 _ from (by repeat (first | with_reducible exact Below.refl _ _ | with_reducible refine Below.setCell ?_ (by first | omega | (simp; done) | (simp; omega)) _ | with_reducible refine bDrewN ?_ _ | with_reducible refine Below.drew ?_ | with_reducible refine Below.alloc ?_ (by first | omega | (simp; done) | (simp; omega)) _)))
            have SF : Hid (Beside r w (w4.setCell ⟨g, 3, none⟩ (.int .i64 m9))) := HS.out.onB (show Below w.heap.size w4 _ from (by repeat (first | with_reducible exact Below.refl _ _ | with_reducible refine Below.setCell ?_ (by first | omega | (simp; done) | (simp; omega)) _ | with_reducible refine bDrewN ?_ _ | with_reducible refine Below.drew ?_ | with_reducible refine Below.alloc ?_ (by first | omega | (simp; done) | (simp; omega)) _)))
            clear HO HR HS
            go_wp2
            go_ret
            unfold MchPost
            exact ⟨some ⟨g, 0, none⟩, k, cap, _, pm, rfl, by omega, OF.out, (fun g2 o2 e => by cases e; exact lbg), RF.out, SF.out⟩
          case neg =>
            have ne1 : (kk == 1) = false := by simpa using e1
            by_cases e2 : kk = 2
            case pos =>
              subst e2
              go_wp2_with fail
              refine (off_any 0 1000000 (by omega) (by omega) (by omega) (HR.out.below (by repeat (first | with_reducible exact Below.refl _ _ | with_reducible refine Below.setCell ?_ (by first | omega | (simp; done) | (simp; omega)) _ | with_reducible refine bDrewN ?_ _ | with_reducible refine Below.drew ?_ | with_reducible refine Below.alloc ?_ (by first | omega | (simp; done) | (simp; omega)) _)))).mono ?_
              rintro e w4 ⟨m9, pm, rfl, m90, R_, b_⟩
              have sz_ : w.heap.size ≤ w3.heap.size := HS.out.2.2.2.1
              have zr_ : r < w3.heap.size := HR.out.1
              have bb : Beside r w3 w4 := (Beside.of (show Below w3.heap.size w3 _ from (by repeat (first | with_reducible exact Below.refl _ _ | with_reducible refine Below.setCell ?_ (by first | omega | (simp; done) | (simp; omega)) _ | with_reducible refine bDrewN ?_ _ | with_reducible refine Below.drew ?_ | with_reducible refine Below.alloc ?_ (by first | omega | (simp; done) | (simp; omega)) _)))).trans b_
              replace HS : Hid (Beside r w w4) := HS.out.trans bb
              replace HR : Hid (Rd w4 r s n c pm) := R_
              clear R_
              replace HO : Hid (OwnI bo w4 (some ⟨g, 0, none⟩) (k * 4) U) := ownB_besideM HO.out bb (by omega)
              clear bb b_ sz_ zr_ 
              obtain ⟨gg_, eg_, -, zz_a, cea, cfa⟩ := HO.out 1 (by omega)
              cases eg_
              have zk : (0 : Int) < (k : Int) := by omega
              have OF : Hid (RowI (w4.setCell ⟨g, 1, none⟩ (.int .i64 m9)) (some ⟨g, 0, none⟩) (k * 4) _) := (OwnI.putM HO.out 1 m9).row
              have RF : Hid (Rd (w4.setCell ⟨g, 1, none⟩ (.int .i64 m9)) r s n c pm) := Rd.below' HR.out (show Below (r + 1) w4 _ from (by repeat (first | with_reducible exact Below.refl _ _ | with_reducible refine Below.setCell ?_ (by first | omega | (simp; done) | (simp; omega)) _ | with_reducible refine bDrewN ?_ _ | with_reducible refine Below.drew ?_ | with_reducible refine Below.alloc ?_ (by first | omega | (simp; done) | (simp; omega)) _)))
              have SF : Hid (Beside r w (w4.setCell ⟨g, 1, none⟩ (.int .i64 m9))) := HS.out.onB (show Below w.heap.size w4 _ from (by repeat (first | with_reducible exact Below.refl _ _ | with_reducible refine Below.setCell ?_ (by first | omega | (simp; done) | (simp; omega)) _ | with_reducible refine bDrewN ?_ _ | with_reducible refine Below.drew ?_ | with_reducible refine Below.alloc ?_ (by first | omega | (simp; done) | (simp; omega)) _)))
              clear HO HR HS
              go_wp2
              go_ret
              unfold MchPost
              exact ⟨some ⟨g, 0, none⟩, k, cap, _, pm, rfl, by omega, OF.out, (fun g2 o2 e => by cases e; exact lbg), RF.out, SF.out⟩
            case neg =>
              have ne2 : (kk == 2) = false := by simpa using e2
              have ROW : Hid (RowI w3 (some ⟨g, 0, none⟩) (k * 4) U) := HO.out.row
              have LB : Hid (∀ g2 o, some (⟨g, 0, none⟩ : Addr) = some ⟨g2, o, none⟩ → w.heap.size ≤ g2) := fun g2 o2 e => by cases e; exact lbg
              clear HO
              by_cases e3 : kk = 3
              case pos =>
                subst e3
                have k9 : (0 : Int) ≤ (cap : Int) := by omega
                go_wp2
                go_ret
                unfold MchPost
                exact ⟨some ⟨g, 0, none⟩, 0, cap, U, pk, rfl, by omega, (fun j hj => by omega), LB.out, HR.out, HS.out⟩
              case neg =>
                have ne3 : (kk == 3) = false := by simpa using e3
                go_wp2
                go_ret
                unfold MchPost
                exact ⟨some ⟨g, 0, none⟩, k, cap, U, pk, rfl, by omega, ROW.out, LB.out, HR.out, HS.out⟩
end Go.Proofs.Ytcialcejmjggeaa
