/-
What is proved: container/heap's Init, Pop and Push over a queue of machines.
-/
import Derived.Test.YtcialcejmjggeaaHpD
import Derived.Deep.RegionHeldLaw
import Derived.Deep.DeepCutAuto

namespace Go.Proofs.Ytcialcejmjggeaa
set_option maxRecDepth 40000
open Go.ChangeShapes Go.WideShapes Go.ChangeAt Go.RowKit
set_option linter.unusedVariables false
set_option linter.unusedSimpArgs false

set_option maxRecDepth 20000 in
set_option maxHeartbeats 4000000 in
theorem init_any (sh : Bool) (X : Nat → Prop) (q n : Nat) (V : Nat → Int) (P : Nat → Nat) (S : Nat → Prop) (w : World) (hn : n < 1000) (HH : Hid (Hold n P S)) (HS : Hid (∀ a, S a → a < 60)) (HQ : Hid (QAt X q w sh n V P)) :
    Calls Try.prog 49 #[qI q] w fun e w' => e = .returned (.tuple #[]) ∧ DownR sh X q n n 0 V P w w' := by
  have hqi : qI q = .iface 50 (.pointer (some ⟨q, 0, none⟩)) := rfl
  have HQI : Hid (qI q = .iface 50 (.pointer (some ⟨q, 0, none⟩))) := hqi
  rw [hqi]
  clear hqi
  have hN : (n : Int) < 1000 := by omega
  obtain ⟨h, hh⟩ : ∃ z : Nat, z = n / 2 := ⟨_, rfl⟩
  have e1 : Int.tdiv (n : Int) 2 = (h : Int) := by rw [Int.tdiv_eq_ediv_of_nonneg (by omega)]; omega
  have hH : (h : Int) < 1000 := by omega
  go_enter Try.func49, Try.ntmps49
  go_wp2_with fail
  refine upon_run (a := (38, Value.pointer (some ⟨q, 0, none⟩))) (w' := w) (by kernel_rfl) ?_
  go_wp2_with fail
  refine (qlen_any sh X q n V P _ HQ).mono ?_
  rintro e w ⟨rfl, rfl⟩
  go_wp2_with fail
  go_loopw [3] (fun iv wr => ∃ (k : Nat) (P1 : Nat → Nat), iv = .int .i64 ((k : Int) - 1) ∧ k ≤ h ∧ Hid (QAt X q wr sh n V P1) ∧ Hid (Turn X w wr) ∧ Hid (HeapG (kO sh V) k n P1) ∧ Hid (HoldR n P P1)) (fun iv _ => (intOf iv + 1).toNat)
  case atStart => exact ⟨h, P, by rw [show (n : Int) / 2 = (h : Int) by omega], Nat.le_refl _, HQ, Turn.refl _ _, heap_end (by omega), HoldR.refl _ _⟩
  case round =>
    clear HQ
    obtain ⟨k, P1, rfl, hk, HQwr, HTwr, HHP, HR⟩ := hrel
    have hK : (k : Int) < 1000 := by omega
    cases k with
    | zero =>
      go_wp2
      go_end0
      exact ⟨rfl, P1, HQwr.out, HTwr.out, HHP.out, HR.out⟩
    | succ i =>
      have e2 : ((i + 1 : Nat) : Int) - 1 = (i : Int) := by omega
      rw [e2]
      clear e2
      have hI : (i : Int) < 1000 := by omega
      have p0 : 0 ≤ (i : Int) := by omega
      have HHE : Hid (h = n / 2) := hh
      have hin : i < 1000 := by omega
      clear hh
      have hR1 := HR.out
      have HH1 : Hid (Hold n P1 S) := hR1.1 S n (Nat.le_refl _) HH.out
      clear hR1
      go_wp2_with fail
      rw [← HQI.out]
      refine (down_any sh X q n n i V P1 S _ (by omega) (Nat.le_refl _) hin HH1 HS (down_begin HHP.out) HQwr).mono ?_
      rintro e w2 ⟨b, rfl, P2, hQ2, hT2, hH2, hR2⟩
      rw [HQI.out]
      have HQ2 : Hid (QAt X q w2 sh n V P2) := hQ2
      have HT2 : Hid (Turn X w w2) := HTwr.out.trans hT2
      have HH2 : Hid (HeapG (kO sh V) i n P2) := hH2
      have HR2 : Hid (HoldR n P P2) := ⟨fun S l hl h => hR2.1 S l hl (HR.out.1 S l hl h), fun k hk => (hR2.2 k hk).trans (HR.out.2 k hk)⟩
      clear hQ2 hT2 hH2 hR2 HQwr HTwr HHP HR HH1
      go_wp2
      go_roundw
      case rel => exact ⟨i, P2, rfl, by omega, HQ2, HT2, HH2, HR2⟩
      case measure => first | (simp [intOf]; done) | (simp [intOf]; omega)
set_option maxRecDepth 20000 in
set_option maxHeartbeats 4000000 in
theorem hpop_any (sh : Bool) (X : Nat → Prop) (q m : Nat) (V : Nat → Int) (P : Nat → Nat) (S : Nat → Prop) (w : World) (hn : m + 1 < 1000) (HH : Hid (Hold (m + 1) P S)) (HS : Hid (∀ a, S a → a < 60)) (HG : Hid (HeapG (kO sh V) 0 (m + 1) P)) (HQ : Hid (QAt X q w sh (m + 1) V P)) :
    Calls Try.prog 50 #[qI q] w fun e w' => ∃ P', e = .returned (.iface 55 (plV V (P 0))) ∧ QAt X q w' sh m V P' ∧ Turn X w w' ∧ HeapG (kO sh V) 0 m P' ∧ Hold m P' (fun a => S a ∧ a ≠ P 0) := by
  have hqi : qI q = .iface 50 (.pointer (some ⟨q, 0, none⟩)) := rfl
  have HQI : Hid (qI q = .iface 50 (.pointer (some ⟨q, 0, none⟩))) := hqi
  rw [hqi]
  clear hqi
  obtain ⟨N, hN⟩ : ∃ z : Nat, z = m + 1 := ⟨_, rfl⟩
  have e1 : (N : Int) - 1 = (m : Int) := by omega
  have hM : (m : Int) < 1000 := by omega
  have hNN : (N : Int) < 1000 := by omega
  have HN : Hid (N = m + 1) := hN
  rw [← hN] at HQ
  clear hN
  go_enter Try.func50, Try.ntmps50
  go_wp2_with fail
  refine upon_run (a := (38, Value.pointer (some ⟨q, 0, none⟩))) (w' := w) (by kernel_rfl) ?_
  go_wp2_with fail
  refine (qlen_any sh X q N V P _ HQ).mono ?_
  rintro e w ⟨rfl, rfl⟩
  go_wp2_with fail
  refine upon_run (a := (83, Value.pointer (some ⟨q, 0, none⟩))) (w' := w) (by kernel_rfl) ?_
  go_wp2_with fail
  refine (qswap_any sh X q N 0 m V P _ (by rw [HN.out]; omega) (by rw [HN.out]; omega) HQ).mono ?_
  rintro e w1 ⟨rfl, hQ1, hT1⟩
  have HQ1 : Hid (QAt X q w1 sh N V (swp P 0 m)) := hQ1
  have HT1 : Hid (Turn X w w1) := hT1
  clear hQ1 hT1 HQ
  have HH1 : Hid (Hold N (swp P 0 m) S) := by show Hold _ _ _; rw [HN.out]; exact hold_swp HH.out (by omega) (by omega)
  go_wp2_with fail
  rw [← HQI.out]
  refine (down_any sh X q N m 0 V (swp P 0 m) S _ (by rw [HN.out]; omega) (by rw [HN.out]; omega) (by omega) HH1 HS (pop_start HG.out) HQ1).mono ?_
  rintro e w2 ⟨b, rfl, P2, hQ2, hT2, hH2, hR2⟩
  rw [HQI.out]
  rw [HN.out] at hQ2
  have HQ2 : Hid (QAt X q w2 sh (m + 1) V P2) := hQ2
  have HT2 : Hid (Turn X w w2) := HT1.out.trans hT2
  have HH2 : Hid (HeapG (kO sh V) 0 m P2) := hH2
  have HE : Hid (P2 m = P 0) := (hR2.2 m (Nat.le_refl _)).trans (swp_r P 0 m)
  have HHo : Hid (Hold m P2 (fun a => S a ∧ a ≠ P 0)) := hR2.1 _ m (Nat.le_refl _) (hold_pop HH.out)
  clear hQ2 hT2 hH2 hR2 HQ1 HT1 HH1
  go_wp2_with fail
  refine upon_run (a := (81, Value.pointer (some ⟨q, 0, none⟩))) (w' := w2) (by kernel_rfl) ?_
  go_wp2_with fail
  refine (qpop_any sh X q m V P2 _ (by omega) HQ2).mono ?_
  rintro e w3 ⟨rfl, hQ3, hT3⟩
  have HQ3 : Hid (QAt X q w3 sh m V P2) := hQ3
  have HT3 : Hid (Turn X w w3) := HT2.out.trans hT3
  clear hQ3 hT3 HQ2 HT2
  go_wp2
  go_ret
  exact ⟨P2, by rw [HE.out]; rfl, HQ3.out, HT3.out, HH2.out, HHo.out⟩
set_option maxRecDepth 20000 in
set_option maxHeartbeats 4000000 in
theorem hpush_any (sh : Bool) (X : Nat → Prop) (q n a : Nat) (V : Nat → Int) (P : Nat → Nat) (S : Nat → Prop) (w : World) (hn : n + 1 < 1000) (ha : a < 60) (HA : Hid (¬ S a)) (HX : Hid (∀ b, w.heap.size ≤ b → X b)) (HH : Hid (Hold n P S)) (HS : Hid (∀ a, S a → a < 60)) (HG : Hid (HeapG (kO sh V) 0 n P)) (HQ : Hid (QAt X q w sh n V P)) :
    Calls Try.prog 51 #[qI q, .iface 55 (plV V a)] w fun e w' => ∃ P', e = .returned (.tuple #[]) ∧ QAt X q w' sh (n + 1) V P' ∧ Turn X w w' ∧ HeapG (kO sh V) 0 (n + 1) P' ∧ Hold (n + 1) P' (fun b => S b ∨ b = a) := by
  have hqi : qI q = .iface 50 (.pointer (some ⟨q, 0, none⟩)) := rfl
  have HQI : Hid (qI q = .iface 50 (.pointer (some ⟨q, 0, none⟩))) := hqi
  rw [hqi]
  clear hqi
  obtain ⟨pv, hpv⟩ : ∃ z, plV V a = z := ⟨_, rfl⟩
  have HPV : Hid (plV V a = pv) := hpv
  rw [hpv]
  clear hpv
  obtain ⟨N, hN⟩ : ∃ z : Nat, z = n + 1 := ⟨_, rfl⟩
  have e1 : (N : Int) - 1 = (n : Int) := by omega
  have hNN : (N : Int) < 1000 := by omega
  have HN : Hid (N = n + 1) := hN
  clear hN
  go_enter Try.func51, Try.ntmps51
  go_wp2_with fail
  refine upon_run (a := (82, Value.pointer (some ⟨q, 0, none⟩))) (w' := w) (by kernel_rfl) ?_
  go_wp2_with fail
  rw [← HPV.out]
  refine (qpush_any sh X q n a V P _ (by omega) HX HQ).mono ?_
  rintro e w1 ⟨rfl, hQ1, hT1⟩
  rw [← HN.out] at hQ1
  have HQ1 : Hid (QAt X q w1 sh N V (pushP P n a)) := hQ1
  have HT1 : Hid (Turn X w w1) := hT1
  clear hQ1 hT1 HQ
  have HH1 : Hid (Hold N (pushP P n a) (fun b => S b ∨ b = a)) := by show Hold _ _ _; rw [HN.out]; exact hold_push HH.out HA.out
  have HS1 : Hid (∀ b, S b ∨ b = a → b < 60) := fun b h => h.elim (HS.out b) (fun e => e ▸ ha)
  have HU : Hid (UpAt (kO sh V) N n (pushP P n a)) := by show UpAt _ _ _ _; rw [HN.out]; exact up_start HG.out
  go_wp2_with fail
  refine upon_run (a := (38, Value.pointer (some ⟨q, 0, none⟩))) (w' := w1) (by kernel_rfl) ?_
  go_wp2_with fail
  refine (qlen_any sh X q N V _ _ HQ1).mono ?_
  rintro e w1 ⟨rfl, rfl⟩
  go_wp2_with fail
  rw [← HQI.out]
  refine (up_any sh X q N n V (pushP P n a) (fun b => S b ∨ b = a) _ (by rw [HN.out]; omega) (by rw [HN.out]; omega) HH1 HS1 HU HQ1).mono ?_
  rintro e w2 ⟨rfl, P2, hQ2, hT2, hH2, hR2⟩
  have HHo : Hid (Hold N P2 (fun b => S b ∨ b = a)) := hR2.1 _ N (Nat.le_refl _) HH1.out
  have HT2 : Hid (Turn X w w2) := HT1.out.trans hT2
  rw [HN.out] at hQ2 hH2
  have HQ2 : Hid (QAt X q w2 sh (n + 1) V P2) := hQ2
  have HH2 : Hid (HeapG (kO sh V) 0 (n + 1) P2) := hH2
  clear hQ2 hT2 hH2 hR2 HQ1 HT1 HH1 HU
  go_wp2
  go_end0
  exact ⟨P2, rfl, HQ2.out, HT2.out, HH2.out, by rw [← HN.out]; exact HHo.out⟩
end Go.Proofs.Ytcialcejmjggeaa
