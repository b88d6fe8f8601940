/-
What is proved: from where on all floats of a list are settled, as the specification tells it.
-/
import Derived.Test.YtdolcdedogienaaStl
namespace Go.Proofs.Ytdolcdedogienaa
set_option maxRecDepth 40000
open Go.RowKit
set_option linter.unusedVariables false
set_option linter.unusedSimpArgs false

set_option maxRecDepth 20000 in
set_option maxHeartbeats 4000000 in
theorem specStl_in (s : Option Addr) (n c : Nat) (V : Nat → Option Nat) (y z f : Nat) (v a : Option Nat) (hy : Fl y v) (hz : Fl z a) (w : World) (HR : Hid (RowF w s n V)) (HF : Hid (FromV (setB V v a) n f)) (hn : n ≤ 1000) :
    Calls Try.prog 20 #[.slice s n c, .float .f64 y, .float .f64 z] w fun e w' => e = .returned (.int .i64 (stlR n f)) ∧ Below w.heap.size w w' := by
  have hn1 : (n : Int) ≤ 1000 := by omega
  go_enter Try.func20, Try.ntmps20
  go_wp2_with fail
  go_loopw [7, 8] (fun q i wr => ∃ k : Nat, k ≤ n ∧ i = .int .i64 ((k : Int) - 1) ∧ q = .int .i64 (stlR n k) ∧ (∀ j, k ≤ j → j < n → setB V v a j = true) ∧ Below w.heap.size w wr) (fun _ i _ => (intOf i + 1).toNat)
  case atStart => exact ⟨n, Nat.le_refl _, by go_num, by simp [stlR], fun j h1 h2 => by omega, (by repeat (first | with_reducible exact Below.refl _ _ | with_reducible refine Below.setCell ?_ (by first | omega | (simp; done) | (simp; omega)) _ | with_reducible refine bDrewN ?_ _ | with_reducible refine Below.drew ?_ | with_reducible refine Below.alloc ?_ (by first | omega | (simp; done) | (simp; omega)) _))⟩
  case round =>
    obtain ⟨k, hk, rfl, rfl, hP, hB⟩ := hrel
    have HP : Hid (∀ j, k ≤ j → j < n → setB V v a j = true) := hP
    clear hP
    by_cases h1 : 0 < k
    · obtain ⟨m, rfl⟩ : ∃ m, k = m + 1 := ⟨k - 1, by omega⟩
      have e1 : ((m + 1 : Nat) : Int) - 1 = (m : Int) := by omega
      rw [e1]
      obtain ⟨g, o, x, rfl, hg, c0, hx⟩ := HR.out m (by omega)
      have d0 : wr.cell? ⟨g, o + m, none⟩ = some (.float .f64 x) := (hB.cell (p := ⟨g, o + m, none⟩) hg).trans c0
      have m1 : (m : Int) < (n : Int) := by omega
      have HX : Hid (knownB x = knP (V m)) := knownP_fl hx
      have HK : Hid (setB V v a m = (knP (V m) && nearO (V m) v a)) := rfl
      have zg : g < wr.heap.size := Nat.lt_of_lt_of_le hg hB.size
      clear c0 e1 hg
      go_wp2_with fail
      refine (specKnown_any x _).mono ?_
      rintro e w1 ⟨rfl, n1, rfl⟩
      cases hb : knownB x with
      | false =>
        have NO : f = m + 1 := FromV.one HF.out ⟨hk, HP.out, fun _ => by show setB V v a m = false; rw [HK.out, ← HX.out, hb]; rfl⟩
        subst NO
        go_wp2
        go_ret
        exact ⟨rfl, (by repeat (first | with_reducible exact Below.refl _ _ | with_reducible exact hB | with_reducible refine Below.setCell ?_ (by first | omega | (simp; done) | (simp; omega)) _ | with_reducible refine bDrewN ?_ _ | with_reducible refine Below.drew ?_ | with_reducible refine Below.alloc ?_ (by first | omega | (simp; done) | (simp; omega)) _))⟩
      | true =>
        obtain ⟨r, n2, hrun, hr⟩ := fl_run (P := Try.prog) (f := .sub) rfl 22 hx hy (wr.drewN n1)
        go_wp2_with fail
        refine (l1SizeF_any hr _).mono ?_
        rintro e w2 ⟨t, rfl, ht, rfl⟩
        have ho := fl_order ht hz
        have HQ : Hid (setB V v a m = leqB (ordO (sizeO (opO .sub (V m) v)) a)) := by
          have q : setB V v a m = leqB (ordO (sizeO (opO .sub (V m) v)) a) := by rw [HK.out, ← HX.out, hb]; rfl
          exact q
        rw [← ho] at HQ
        clear ho hr hrun
        cases hq : (FloatKind.f64.format.order t z == some .lt || FloatKind.f64.format.order t z == some .eq)
        · have NO : f = m + 1 := FromV.one HF.out ⟨hk, HP.out, fun _ => by show setB V v a m = false; rw [HQ.out]; exact hq⟩
          subst NO
          go_wp2
          go_ret
          exact ⟨rfl, (by repeat (first | with_reducible exact Below.refl _ _ | with_reducible exact hB | with_reducible refine Below.setCell ?_ (by first | omega | (simp; done) | (simp; omega)) _ | with_reducible refine bDrewN ?_ _ | with_reducible refine Below.drew ?_ | with_reducible refine Below.alloc ?_ (by first | omega | (simp; done) | (simp; omega)) _))⟩
        · have OX : Hid (∀ j, m ≤ j → j < n → setB V v a j = true) := fun j h1 h2 => by
            by_cases e : j = m
            · rw [e, HQ.out]; exact hq
            · exact HP.out j (by omega) h2
          have HS : Hid (stlR n m = (m : Int)) := show stlR n m = (m : Int) by unfold stlR; rw [if_neg (by omega)]
          go_wp2
          go_roundw
          case rel => exact ⟨m, by omega, by go_num, by rw [HS.out], OX.out, (by repeat (first | with_reducible exact Below.refl _ _ | with_reducible exact hB | with_reducible refine Below.setCell ?_ (by first | omega | (simp; done) | (simp; omega)) _ | with_reducible refine bDrewN ?_ _ | with_reducible refine Below.drew ?_ | with_reducible refine Below.alloc ?_ (by first | omega | (simp; done) | (simp; omega)) _))⟩
          case measure => simp [intOf] <;> omega
    · obtain rfl : k = 0 := by omega
      have NO : f = 0 := FromV.one HF.out ⟨hk, HP.out, fun h => by omega⟩
      subst NO
      go_wp2
      go_ret
      exact ⟨rfl, (by repeat (first | with_reducible exact Below.refl _ _ | with_reducible exact hB | with_reducible refine Below.setCell ?_ (by first | omega | (simp; done) | (simp; omega)) _ | with_reducible refine bDrewN ?_ _ | with_reducible refine Below.drew ?_ | with_reducible refine Below.alloc ?_ (by first | omega | (simp; done) | (simp; omega)) _))⟩
set_option maxHeartbeats 1000000 in
theorem specStl_far (s : Option Addr) (n c : Nat) (y z : Nat) (w : World) (hn : (1000 : Int) < (n : Int)) :
    Calls Try.prog 20 #[.slice s n c, .float .f64 y, .float .f64 z] w fun e w' => e = .returned (.int .i64 (-1)) ∧ Below w.heap.size w w' := by
  go_enter Try.func20, Try.ntmps20
  go_wp2
  go_ret
  exact ⟨rfl, (by repeat (first | with_reducible exact Below.refl _ _ | with_reducible refine Below.setCell ?_ (by first | omega | (simp; done) | (simp; omega)) _ | with_reducible refine bDrewN ?_ _ | with_reducible refine Below.drew ?_ | with_reducible refine Below.alloc ?_ (by first | omega | (simp; done) | (simp; omega)) _))⟩
end Go.Proofs.Ytdolcdedogienaa
