/-
What is proved: the places of a list of floats at which they drift, as the specification tells them.
-/
import Derived.Test.YtdolcdedogienaaDri
namespace Go.Proofs.Ytdolcdedogienaa
set_option maxRecDepth 40000
open Go.RowKit
set_option linter.unusedVariables false
set_option linter.unusedSimpArgs false

set_option maxRecDepth 20000 in
set_option maxHeartbeats 4000000 in
theorem specDri_any (s : Option Addr) (n c : Nat) (V : Nat → Option Nat) (z : Nat) (a : Option Nat) (hz : Fl z a) (w : World) (hn : (n : Int) ≤ 1048576) (HR : Hid (RowF w s n V)) :
    Calls Try.prog 22 #[.slice s n c, .float .f64 z] w fun e w' => ∃ l s' c', DrV n V a l ∧ e = .returned (.slice s' l.length c') ∧ OwnI w.heap.size w' s' l.length (nthI l) ∧ Below w.heap.size w w' := by
  have HZ := self_eq hz
  go_enter Try.func22, Try.ntmps22
  go_wp2_with fail
  refine (l1None_any _).mono ?_
  rintro e w1 ⟨y0, n0, rfl, hy0, rfl⟩
  go_wp2_with fail
  go_loopw [5, 6, 7] (fun v y i wr => ∃ (k x : Nat), k ≤ n ∧ i = .int .i64 k ∧ y = .float .f64 x ∧ Fl x (lastO V k) ∧ (¬ goD n a → k = 0) ∧ MadeL w.heap.size 0 0 w wr v (drL V a k)) (fun _ _ i _ => n - (intOf i).toNat)
  case atStart => exact ⟨0, y0, Nat.zero_le _, rfl, rfl, hy0, fun _ => rfl, madeL_drew (madeL_lit w (Nat.le_refl _)) _⟩
  case round =>
    obtain ⟨k, y, hk, rfl, rfl, hy, h0, hM⟩ := hrel
    have HM : Hid (MadeL w.heap.size 0 0 w wr u5 (drL V a k)) := hM
    have HO : Hid (wr.ownsRow w.heap.size 2 1 u5 (drL V a k).length (cellsOf (drL V a k))) := hM.1
    have hB : Below w.heap.size w wr := hM.2.1
    have zB := hB.size
    have hl := drL_le V a k
    have HY : Hid (Fl y (lastO V k)) := hy
    clear hM hy
    by_cases hlt : k < n
    · have k1 : (k : Int) < (n : Int) := by omega
      by_cases hg : goD n a
      · have m1 : (n : Int) ≤ 1000 := by have := hg.1; omega
        have m2 : (FloatKind.f64.format.order z z == some .eq) = true := by rw [HZ]; simpa using hg.2
        obtain ⟨g, o, x, rfl, hgl, c0, hx⟩ := HR.out k hlt
        have d0 : wr.cell? ⟨g, o + k, none⟩ = some (.float .f64 x) := (hB.cell (p := ⟨g, o + k, none⟩) hgl).trans c0
        have HX : Hid (knownB x = knP (V k)) := knownP_fl hx
        have HG : Hid (goD n a) := hg
        clear c0 h0 hg HZ
        go_wp2_with fail
        refine (specKnown_any x _).mono ?_
        rintro e w2 ⟨rfl, n1, rfl⟩
        cases hb : knownB x with
        | false =>
          have kn : knP (V k) = false := HX.out.symm.trans hb
          have E1 : Hid (lastO V (k + 1) = lastO V k) := last_no kn
          have E2 : Hid (drL V a (k + 1) = drL V a k) := dr_no (by unfold driftAt; rw [kn]; rfl)
          clear kn
          go_wp2
          go_roundw
          case rel => exact ⟨k + 1, y, by omega, by go_num, rfl, by rw [E1.out]; exact HY.out, fun h => absurd HG.out h, by rw [E2.out]; exact madeL_drew HM.out _⟩
          case measure => simp [intOf]; omega
        | true =>
          have kn : knP (V k) = true := HX.out.symm.trans hb
          have E1 : Hid (lastO V (k + 1) = V k) := last_yes kn
          have HD : Hid (driftAt V a k = farO (V k) (lastO V k) a) := show driftAt V a k = farO (V k) (lastO V k) a by unfold driftAt; rw [kn]; rfl
          have ys := self_eq HY.out
          clear kn
          by_cases hl0 : lastO V k = none
          · have y1 : (FloatKind.f64.format.order y y == some .eq) = false := by rw [ys, hl0]; rfl
            have E2 : Hid (drL V a (k + 1) = drL V a k) := dr_no (by rw [HD.out, hl0]; unfold farO distO; cases V k <;> rfl)
            clear ys hl0
            go_wp2
            go_roundw
            case rel => exact ⟨k + 1, x, by omega, by go_num, rfl, by rw [E1.out]; exact hx, fun h => absurd HG.out h, by rw [E2.out]; exact madeL_drew HM.out _⟩
            case measure => simp [intOf]; omega
          · have y1 : (FloatKind.f64.format.order y y == some .eq) = true := by rw [ys]; simpa using hl0
            clear ys hl0
            obtain ⟨r, n2, hrun, hr⟩ := fl_run (P := Try.prog) (f := .sub) rfl 22 hx HY.out (wr.drewN n1)
            go_wp2_with fail
            refine (l1SizeF_any hr _).mono ?_
            rintro e w3 ⟨t, rfl, ht, rfl⟩
            have ho := fl_order ht hz
            have HQ : Hid (driftAt V a k = (FloatKind.f64.format.order t z == some .gt)) := show driftAt V a k = (FloatKind.f64.format.order t z == some .gt) by rw [HD.out, ho]; rfl
            clear ho hr hrun
            cases hq : (FloatKind.f64.format.order t z == some .gt)
            · have E2 : Hid (drL V a (k + 1) = drL V a k) := dr_no (HQ.out.trans hq)
              go_wp2
              go_roundw
              case rel => exact ⟨k + 1, x, by omega, by go_num, rfl, by rw [E1.out]; exact hx, fun h => absurd HG.out h, by rw [E2.out]; exact MadeL.belowD HM.out (by repeat (first | with_reducible exact Below.refl _ _ | with_reducible refine Below.setCell ?_ (by first | omega | (simp; done) | (simp; omega)) _ | with_reducible refine bDrewN ?_ _ | with_reducible refine Below.drew ?_ | with_reducible refine Below.alloc ?_ (by first | omega | (simp; done) | (simp; omega)) _)) zB⟩
              case measure => simp [intOf]; omega
            · have E2 : Hid (drL V a (k + 1) = drL V a k ++ [(k : Int)]) := dr_yes (HQ.out.trans hq)
              go_wp2_with (at_builtin; refine list_i64h w.heap.size u5 (drL V a k).length (cellsOf (drL V a k)) (.tmp 46) (.tmp 48) (by rfl) (by rfl) (by rfl) (by rfl) (own_belowD HO.out (by repeat (first | with_reducible exact Below.refl _ _ | with_reducible refine Below.setCell ?_ (by first | omega | (simp; done) | (simp; omega)) _ | with_reducible refine bDrewN ?_ _ | with_reducible refine Below.drew ?_ | with_reducible refine Below.alloc ?_ (by first | omega | (simp; done) | (simp; omega)) _))) (by omega) (by simp; omega) ?_; intro g' cap' w3 hown3 hgrow3 hlt3 hat3; have d3 : w3.cell? ⟨g, o + k, none⟩ = some (.float .f64 x) := (hgrow3.cell_far ⟨g, o + k, none⟩ (Nat.lt_of_lt_of_le hgl zB) (fun q => by have := own_block HO.out g q.symm; omega)).trans d0)
              go_roundw
              case rel => exact ⟨k + 1, x, by omega, by go_num, rfl, by rw [E1.out]; exact hx, fun h => absurd HG.out h, by rw [E2.out]; exact madeL_on HM.out (by repeat (first | with_reducible exact Below.refl _ _ | with_reducible refine Below.setCell ?_ (by first | omega | (simp; done) | (simp; omega)) _ | with_reducible refine bDrewN ?_ _ | with_reducible refine Below.drew ?_ | with_reducible refine Below.alloc ?_ (by first | omega | (simp; done) | (simp; omega)) _)) zB (by omega) hown3 hgrow3 hat3⟩
              case measure => simp [intOf]; omega
      · have K0 : Hid (k = 0) := h0 hg
        have HG : Hid (¬ goD n a) := hg
        obtain ⟨s', cap, rfl, ho, -⟩ := madeL_own HM.out
        have HS : Hid (OwnI w.heap.size wr s' (drL V a k).length (nthI (drL V a k))) := ho
        have HL : Hid (drL V a k = []) := by rw [K0.out]; rfl
        clear ho HO HM
        by_cases hm : n ≤ 1000
        · have m1 : (n : Int) ≤ 1000 := by omega
          have m2 : (FloatKind.f64.format.order z z == some .eq) = false := by
            rw [HZ]
            cases a with
            | none => rfl
            | some q => exact absurd ⟨hm, by simp⟩ hg
          clear HZ hg h0
          go_wp2
          go_ret
          first | exact ⟨drL V a k, _, _, .inr ⟨HG.out, HL.out⟩, rfl, HS.out, hB⟩ | exact ⟨drL V a k, .inr ⟨HG.out, HL.out⟩, _, ⟨_, rfl⟩, HS.out, hB⟩
        · have m1 : (1000 : Int) < (n : Int) := by omega
          have m3 : decide ((n : Int) ≤ 1000) = false := decide_eq_false (by omega)
          clear HZ hg h0
          go_wp2
          go_ret
          first | exact ⟨drL V a k, _, _, .inr ⟨HG.out, HL.out⟩, rfl, HS.out, hB⟩ | exact ⟨drL V a k, .inr ⟨HG.out, HL.out⟩, _, ⟨_, rfl⟩, HS.out, hB⟩
    · have e0 : k = n := by omega
      obtain ⟨s', cap, rfl, ho, -⟩ := madeL_own HM.out
      have HS : Hid (OwnI w.heap.size wr s' (drL V a k).length (nthI (drL V a k))) := ho
      have HV : Hid (DrV n V a (drL V a k)) := show DrV n V a (drL V a k) by
        by_cases hg : goD n a
        · exact .inl ⟨hg, by rw [e0]⟩
        · exact .inr ⟨hg, by rw [h0 hg]; rfl⟩
      have k1 : ¬ (k : Int) < (n : Int) := by omega
      clear ho HO HM h0 HZ e0
      go_wp2
      go_ret
      first | exact ⟨drL V a k, _, _, HV.out, rfl, HS.out, hB⟩ | exact ⟨drL V a k, HV.out, _, ⟨_, rfl⟩, HS.out, hB⟩
end Go.Proofs.Ytdolcdedogienaa
