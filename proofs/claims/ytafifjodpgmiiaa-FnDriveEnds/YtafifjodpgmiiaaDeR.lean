/-
What is proved: a right drive's run of 100 pushes one way ends there; of 20 jammed ones it has its Fault.
-/
import Derived.Test.YtafifjodpgmiiaaDrI
import Derived.Test.YtafifjodpgmiiaaDeP
namespace Go.Proofs.Ytafifjodpgmiiaa
set_option maxRecDepth 40000
open Go.ChangeShapes Go.WideShapes Go.ChangeAt Go.RowKit
set_option linter.unusedVariables false
set_option linter.unusedSimpArgs false

theorem endRun (P W T sp wt : Int) (F : Bool) (s : Option Addr) (c : Nat) (S : Nat → Option Addr) (C : Nat → Nat) (Vc : Nat → Int) (w : World) (kd : drvB P W T = true) (ks : inB 1 100 sp = true) (hw : wt = 1 ∨ wt = -1) (hV0 : Vc 0 = 1) (hV1 : Vc 1 = wt) (HP : PshR w s 100 S (fun _ => 1) C (fun _ => Vc) (fun _ => sp) (fun _ => false)) :
    Calls Try.prog 18 #[.agg #[.int .i64 P, .int .i64 W, .int .i64 T, .bool F], .slice s 100 c] w fun e w' => ∃ (b c' : Nat) (v2 : Int) (v3 : Bool), e = .returned (.tuple #[.slice (some ⟨b, 0, none⟩) 100 c', .agg #[.int .i64 (endV wt), .int .i64 0, .int .i64 v2, .bool v3], .bool true]) ∧ b < w'.heap.size ∧ w'.cell? ⟨b, 99, none⟩ = some (.int .i64 (endV wt)) ∧ Below w.heap.size w w' := by
  have key : allD (P, W, T, F) (fun _ => 1) (fun _ => Vc) (fun _ => sp) (fun _ => false) 100 = true ∧ ∃ v2 v3, stD (P, W, T, F) (fun _ => 1) (fun _ => Vc) (fun _ => sp) (fun _ => false) 100 = (endV wt, 0, v2, v3) := by
    have hV : ∀ j : Nat, decV ((fun _ => Vc) j) ((fun _ => 1) j) = wt := fun _ => dec_one hV0 hV1 hw
    have fin : ∀ x : Drv, drvB x.1 x.2.1 x.2.2.1 = true → x.1 = endV wt → x.2.1 = 0 → ∃ v2 v3, x = (endV wt, 0, v2, v3) := fun x _ h1 h2 => ⟨x.2.2.1, x.2.2.2, by rw [← h1, ← h2]⟩
    rcases hw with rfl | rfl
    · obtain ⟨h1, h2, h3, h4⟩ := ends_up (d := (P, W, T, F)) (K := fun _ => 1) (V := fun _ => Vc) (X := fun _ => sp) (J := fun _ => false) kd ks hV (fun _ => rfl) (fun _ => rfl) 100 (by omega)
      have h5 := (drv_yes h1).1.2
      have e : (stD (P, W, T, F) (fun _ => 1) (fun _ => Vc) (fun _ => sp) (fun _ => false) 100).1 = 100 := by omega
      exact ⟨h2, fin _ h1 e (h4 (by omega) e)⟩
    · obtain ⟨h1, h2, h3, h4⟩ := ends_dn (d := (P, W, T, F)) (K := fun _ => 1) (V := fun _ => Vc) (X := fun _ => sp) (J := fun _ => false) kd ks hV (fun _ => rfl) (fun _ => rfl) 100 (by omega)
      have h5 := (drv_yes h1).1.1
      have e : (stD (P, W, T, F) (fun _ => 1) (fun _ => Vc) (fun _ => sp) (fun _ => false) 100).1 = 0 := by omega
      exact ⟨h2, fin _ h1 e (h4 (by omega) e)⟩
  obtain ⟨ha, v2, v3, hs⟩ := key
  refine (implRun_near P W T F s 100 c S (fun _ => 1) C (fun _ => Vc) (fun _ => sp) (fun _ => false) w (by omega) kd HP 100 (endV wt) 0 v2 v3 true (fun _ => ⟨rfl, hs, rfl⟩) (fun q => by rw [ha] at q; cases q)).mono ?_
  rintro e w' ⟨s', c', rfl, ho, hb⟩
  obtain ⟨b, rfl, -, b1, b2, -⟩ := ho 99 (by omega)
  exact ⟨b, c', v2, v3, rfl, b1, b2.trans (by show some (Value.int .i64 (stD (P, W, T, F) (fun _ => 1) (fun _ => Vc) (fun _ => sp) (fun _ => false) 100).1) = _; rw [hs]), hb⟩
theorem jamRun (P W T sp wt : Int) (F : Bool) (s : Option Addr) (c : Nat) (S : Nat → Option Addr) (C : Nat → Nat) (Vc : Nat → Int) (w : World) (kd : drvB P W T = true) (ks : inB 1 100 sp = true) (hw : wt = 1 ∨ wt = -1) (hV0 : Vc 0 = 1) (hV1 : Vc 1 = wt) (HP : PshR w s 20 S (fun _ => 1) C (fun _ => Vc) (fun _ => sp) (fun _ => true)) :
    Calls Try.prog 18 #[.agg #[.int .i64 P, .int .i64 W, .int .i64 T, .bool F], .slice s 20 c] w fun e w' => ∃ (s' : Option Addr) (c' : Nat) (v1 v2 : Int) (v3 : Bool), e = .returned (.tuple #[.slice s' 20 c', .agg #[.int .i64 P, .int .i64 v1, .int .i64 v2, .bool v3], .bool true]) ∧ (P = endV wt ∨ v3 = true) ∧ Below w.heap.size w w' := by
  have hV : ∀ j : Nat, decV ((fun _ => Vc) j) ((fun _ => 1) j) = wt := fun _ => dec_one hV0 hV1 hw
  obtain ⟨h1, h2, h3, h4⟩ := jams (d := (P, W, T, F)) (K := fun _ => 1) (V := fun _ => Vc) (X := fun _ => sp) (J := fun _ => true) kd hw ks hV (fun _ => rfl) (fun _ => rfl) 20 (by omega)
  obtain ⟨x, hx⟩ : ∃ x, stD (P, W, T, F) (fun _ => 1) (fun _ => Vc) (fun _ => sp) (fun _ => true) 20 = x := ⟨_, rfl⟩
  rw [hx] at h1 h3 h4
  obtain ⟨x0, x1, x2, x3⟩ := x
  have h30 : x0 = P := h3
  subst h30
  have h5 : x2 ≤ 20 := (drv_yes h1).2.2.1.2
  have hor : x0 = endV wt ∨ x3 = true := by
    by_cases q : x0 = endV wt
    · exact Or.inl q
    · obtain ⟨-, a, b⟩ := h4 q (by omega)
      refine Or.inr (b ?_)
      show x2 = 20
      have a' : ((20 : Nat) : Int) ≤ x2 := a
      omega
  refine (implRun_near x0 W T F s 20 c S (fun _ => 1) C (fun _ => Vc) (fun _ => sp) (fun _ => true) w (by omega) kd HP 20 x0 x1 x2 x3 true (fun _ => ⟨rfl, hx, rfl⟩) (fun q => by rw [h2] at q; cases q)).mono ?_
  rintro e w' ⟨s', c', rfl, ho, hb⟩
  exact ⟨s', c', x1, x2, x3, rfl, hor, hb⟩
/-- A push in its block. -/
def PusAt (w : World) (p ob : Nat) (sp : Int) (jam : Bool) : Prop := p < w.heap.size ∧ (∀ o, w.frozen? ⟨p, o, none⟩ = false) ∧ w.cell? ⟨p, 0, none⟩ = some (.slice (some ⟨ob, 0, none⟩) 1 1) ∧ w.cell? ⟨p, 1, none⟩ = some (.int .i64 sp) ∧ w.cell? ⟨p, 2, none⟩ = some (.bool jam)
theorem PusAt.belowB {w w' : World} {p ob B : Nat} {sp : Int} {jam : Bool} (h : PusAt w p ob sp jam) (hb : Below B w w') (hl : p < B) : PusAt w' p ob sp jam := by
  obtain ⟨h1, h2, c0, c1, c2⟩ := h
  exact ⟨Nat.lt_of_lt_of_le h1 hb.size, fun o => (hb.frozen (p := ⟨p, o, none⟩) hl).trans (h2 o), (hb.cell (p := ⟨p, 0, none⟩) hl).trans c0, (hb.cell (p := ⟨p, 1, none⟩) hl).trans c1, (hb.cell (p := ⟨p, 2, none⟩) hl).trans c2⟩
theorem PusAt.jam {w : World} {p ob : Nat} {sp : Int} {jam : Bool} (h : PusAt w p ob sp jam) : PusAt (w.setCell ⟨p, 2, none⟩ (.bool true)) p ob sp true := by
  obtain ⟨h1, h2, c0, c1, c2⟩ := h
  refine ⟨by simpa using h1, fun o => by simp [go_sem, h2], ?_, ?_, ?_⟩ <;> simp [go_sem, c0, c1, c2]
end Go.Proofs.Ytafifjodpgmiiaa
