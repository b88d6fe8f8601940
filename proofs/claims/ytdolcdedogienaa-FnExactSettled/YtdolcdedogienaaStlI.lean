/-
What is proved: from where on all floats of a list are settled, as the program tells it.
-/
import Derived.Test.YtdolcdedogienaaStl
import Derived.Test.YtdolcdedogienaaIns
namespace Go.Proofs.Ytdolcdedogienaa
set_option maxRecDepth 40000
open Go.RowKit
set_option linter.unusedVariables false
set_option linter.unusedSimpArgs false

set_option maxRecDepth 20000 in
set_option maxHeartbeats 4000000 in
theorem implStl_in (s : Option Addr) (n c : Nat) (V : Nat → Option Nat) (y z f : Nat) (v a : Option Nat) (hy : Fl y v) (hz : Fl z a) (w : World) (HR : Hid (RowF w s n V)) (HF : Hid (FromV (setB V v a) n f)) (hn : n ≤ 1000) :
    Calls Try.prog 21 #[.slice s n c, .float .f64 y, .float .f64 z] w fun e w' => e = .returned (.int .i64 (stlR n f)) ∧ Below w.heap.size w w' := by
  have hn1 : (n : Int) ≤ 1000 := by omega
  go_enter Try.func21, Try.ntmps21
  go_wp2_with fail
  go_loopw [7] (fun i wr => ∃ k : Nat, k ≤ n ∧ i = .int .i64 (k : Int) ∧ (∀ j, k ≤ j → j < n → setB V v a j = true) ∧ Below w.heap.size w wr) (fun i _ => (intOf i).toNat)
  case atStart => exact ⟨n, Nat.le_refl _, rfl, fun j h1 h2 => by omega, (by repeat (first | with_reducible exact Below.refl _ _ | with_reducible refine Below.setCell ?_ (by first | omega | (simp; done) | (simp; omega)) _ | with_reducible refine bDrewN ?_ _ | with_reducible refine Below.drew ?_ | with_reducible refine Below.alloc ?_ (by first | omega | (simp; done) | (simp; omega)) _))⟩
  case round =>
    obtain ⟨k, hk, rfl, hP, hB⟩ := hrel
    have HP : Hid (∀ j, k ≤ j → j < n → setB V v a j = true) := hP
    clear hP
    by_cases h1 : 0 < k
    · obtain ⟨m, rfl⟩ : ∃ m, k = m + 1 := ⟨k - 1, by omega⟩
      obtain ⟨g, o, x, rfl, hg, c0, hx⟩ := HR.out m (by omega)
      have d0 : wr.cell? ⟨g, o + m, none⟩ = some (.float .f64 x) := (hB.cell (p := ⟨g, o + m, none⟩) hg).trans c0
      have m1 : (m : Int) < (n : Int) := by omega
      have m2 : (0 : Int) < ((m + 1 : Nat) : Int) := by omega
      have HX : Hid (knownB x = knP (V m)) := knownP_fl hx
      have HK : Hid (setB V v a m = (knP (V m) && nearO (V m) v a)) := rfl
      have zg : g < wr.heap.size := Nat.lt_of_lt_of_le hg hB.size
      have lx := hx.1
      clear c0 hg
      go_wp2_with fail
      refine (instrumentOf_any x lx _).mono ?_
      rintro e w1 ⟨rfl, n1, rfl⟩
      cases hb : knownB x with
      | false =>
        have NO : f = m + 1 := FromV.one HF.out ⟨hk, HP.out, fun _ => by show setB V v a m = false; rw [HK.out, ← HX.out, hb]; rfl⟩
        have e2 : insV x = .iface 62 (.agg #[]) := by unfold insV; rw [hb]; rfl
        rw [e2]
        go_wp2_with fail
        refine upon_run (a := (65, Value.agg #[])) (w' := wr.drewN n1) (by kernel_rfl) ?_
        go_wp2_with fail
        refine (nearB_any y z _).mono ?_
        rintro e w2 ⟨rfl, h2⟩
        have B2 : Below w.heap.size w w2 := Below.trans (by repeat (first | with_reducible exact Below.refl _ _ | with_reducible exact hB | with_reducible refine Below.setCell ?_ (by first | omega | (simp; done) | (simp; omega)) _ | with_reducible refine bDrewN ?_ _ | with_reducible refine Below.drew ?_ | with_reducible refine Below.alloc ?_ (by first | omega | (simp; done) | (simp; omega)) _)) (h2.mono (by simpa using hB.size))
        clear e2 h2
        subst NO
        by_cases q : m + 1 = n
        · have q1 : ((m + 1 : Nat) : Int) = (n : Int) := by omega
          have HS : Hid (stlR n (m + 1) = -1) := show stlR n (m + 1) = -1 by unfold stlR; rw [if_pos q]
          clear q
          go_wp2
          go_ret
          exact ⟨ret_int HS.out.symm, (by repeat (first | with_reducible exact Below.refl _ _ | with_reducible exact B2 | with_reducible refine Below.setCell ?_ (by first | omega | (simp; done) | (simp; omega)) _ | with_reducible refine bDrewN ?_ _ | with_reducible refine Below.drew ?_ | with_reducible refine Below.alloc ?_ (by first | omega | (simp; done) | (simp; omega)) _))⟩
        · have q1 : ¬ ((m + 1 : Nat) : Int) = (n : Int) := by omega
          have HS : Hid (stlR n (m + 1) = ((m + 1 : Nat) : Int)) := show stlR n (m + 1) = ((m + 1 : Nat) : Int) by unfold stlR; rw [if_neg q]
          clear q
          go_wp2
          go_ret
          exact ⟨ret_int HS.out.symm, (by repeat (first | with_reducible exact Below.refl _ _ | with_reducible exact B2 | with_reducible refine Below.setCell ?_ (by first | omega | (simp; done) | (simp; omega)) _ | with_reducible refine bDrewN ?_ _ | with_reducible refine Below.drew ?_ | with_reducible refine Below.alloc ?_ (by first | omega | (simp; done) | (simp; omega)) _))⟩
      | true =>
        have e2 : insV x = .iface 60 (.float .f64 x) := by unfold insV; rw [hb]; rfl
        rw [e2]
        go_wp2_with fail
        refine upon_run (a := (63, Value.float .f64 x)) (w' := wr.drewN n1) (by kernel_rfl) ?_
        go_wp2_with fail
        refine (nearW_any hx hy hz _).mono ?_
        rintro e w2 ⟨rfl, h2⟩
        have B2 : Below w.heap.size w w2 := Below.trans (by repeat (first | with_reducible exact Below.refl _ _ | with_reducible exact hB | with_reducible refine Below.setCell ?_ (by first | omega | (simp; done) | (simp; omega)) _ | with_reducible refine bDrewN ?_ _ | with_reducible refine Below.drew ?_ | with_reducible refine Below.alloc ?_ (by first | omega | (simp; done) | (simp; omega)) _)) (h2.mono (by simpa using hB.size))
        have HQ : Hid (setB V v a m = nearO (V m) v a) := show setB V v a m = nearO (V m) v a by rw [HK.out, ← HX.out, hb]; rfl
        clear e2 h2
        cases hq : nearO (V m) v a
        · have NO : f = m + 1 := FromV.one HF.out ⟨hk, HP.out, fun _ => by show setB V v a m = false; rw [HQ.out]; exact hq⟩
          subst NO
          by_cases q : m + 1 = n
          · have q1 : ((m + 1 : Nat) : Int) = (n : Int) := by omega
            have HS : Hid (stlR n (m + 1) = -1) := show stlR n (m + 1) = -1 by unfold stlR; rw [if_pos q]
            clear q
            go_wp2
            go_ret
            exact ⟨ret_int HS.out.symm, (by repeat (first | with_reducible exact Below.refl _ _ | with_reducible exact B2 | with_reducible refine Below.setCell ?_ (by first | omega | (simp; done) | (simp; omega)) _ | with_reducible refine bDrewN ?_ _ | with_reducible refine Below.drew ?_ | with_reducible refine Below.alloc ?_ (by first | omega | (simp; done) | (simp; omega)) _))⟩
          · have q1 : ¬ ((m + 1 : Nat) : Int) = (n : Int) := by omega
            have HS : Hid (stlR n (m + 1) = ((m + 1 : Nat) : Int)) := show stlR n (m + 1) = ((m + 1 : Nat) : Int) by unfold stlR; rw [if_neg q]
            clear q
            go_wp2
            go_ret
            exact ⟨ret_int HS.out.symm, (by repeat (first | with_reducible exact Below.refl _ _ | with_reducible exact B2 | with_reducible refine Below.setCell ?_ (by first | omega | (simp; done) | (simp; omega)) _ | with_reducible refine bDrewN ?_ _ | with_reducible refine Below.drew ?_ | with_reducible refine Below.alloc ?_ (by first | omega | (simp; done) | (simp; omega)) _))⟩
        · have OX : Hid (∀ j, m ≤ j → j < n → setB V v a j = true) := fun j h1 h2 => by
            by_cases e : j = m
            · rw [e, HQ.out]; exact hq
            · exact HP.out j (by omega) h2
          go_wp2
          go_roundw
          case rel => exact ⟨m, by omega, by go_num, OX.out, (by repeat (first | with_reducible exact Below.refl _ _ | with_reducible exact B2 | with_reducible refine Below.setCell ?_ (by first | omega | (simp; done) | (simp; omega)) _ | with_reducible refine bDrewN ?_ _ | with_reducible refine Below.drew ?_ | with_reducible refine Below.alloc ?_ (by first | omega | (simp; done) | (simp; omega)) _))⟩
          case measure => simp [intOf] <;> omega
    · have k0 : k = 0 := by omega
      have NO : f = k := FromV.one HF.out ⟨hk, HP.out, fun h => by omega⟩
      have k1 : (k : Int) ≤ 0 := by omega
      subst NO
      by_cases q : f = n
      · have q1 : ((f : Nat) : Int) = (n : Int) := by omega
        have HS : Hid (stlR n (f) = -1) := show stlR n (f) = -1 by unfold stlR; rw [if_pos q]
        clear q
        go_wp2
        go_ret
        exact ⟨ret_int HS.out.symm, (by repeat (first | with_reducible exact Below.refl _ _ | with_reducible exact hB | with_reducible refine Below.setCell ?_ (by first | omega | (simp; done) | (simp; omega)) _ | with_reducible refine bDrewN ?_ _ | with_reducible refine Below.drew ?_ | with_reducible refine Below.alloc ?_ (by first | omega | (simp; done) | (simp; omega)) _))⟩
      · have q1 : ¬ ((f : Nat) : Int) = (n : Int) := by omega
        have HS : Hid (stlR n (f) = ((f : Nat) : Int)) := show stlR n (f) = ((f : Nat) : Int) by unfold stlR; rw [if_neg q]
        clear q
        go_wp2
        go_ret
        exact ⟨ret_int HS.out.symm, (by repeat (first | with_reducible exact Below.refl _ _ | with_reducible exact hB | with_reducible refine Below.setCell ?_ (by first | omega | (simp; done) | (simp; omega)) _ | with_reducible refine bDrewN ?_ _ | with_reducible refine Below.drew ?_ | with_reducible refine Below.alloc ?_ (by first | omega | (simp; done) | (simp; omega)) _))⟩
set_option maxHeartbeats 1000000 in
theorem implStl_far (s : Option Addr) (n c : Nat) (y z : Nat) (w : World) (hn : (1000 : Int) < (n : Int)) :
    Calls Try.prog 21 #[.slice s n c, .float .f64 y, .float .f64 z] w fun e w' => e = .returned (.int .i64 (-1)) ∧ Below w.heap.size w w' := by
  go_enter Try.func21, Try.ntmps21
  go_wp2
  go_ret
  exact ⟨rfl, (by repeat (first | with_reducible exact Below.refl _ _ | with_reducible refine Below.setCell ?_ (by first | omega | (simp; done) | (simp; omega)) _ | with_reducible refine bDrewN ?_ _ | with_reducible refine Below.drew ?_ | with_reducible refine Below.alloc ?_ (by first | omega | (simp; done) | (simp; omega)) _))⟩
end Go.Proofs.Ytdolcdedogienaa
