/-
What is proved: when a battery is right, as both packages say it; a battery of the laws as the program's own; what a step may move.
-/
import Derived.Test.YtdoekgnmbdekgaaIsW
import Derived.Test.YtdoekgnmbdekgaaBeside
import Derived.Deep.RegionHeld3
import Derived.Deep.DeepCutAuto
namespace Go.Proofs.Ytdoekgnmbdekgaa
set_option maxRecDepth 40000
open Go.RowKit
set_option linter.unusedVariables false
set_option linter.unusedSimpArgs false

def batB (C M G F : Int) : Bool := inB 0 1000000000000 C && (inB 0 1000000000000 M && (inB 0 1000000000000 G && (inB 0 1000000000000 F && (decide (C ≤ M) && decide (C = F - G)))))
def movB (G F load fill : Int) : Bool := inB 0 1000000000 load && (inB 0 1000000000 fill && (decide (F + fill ≤ 1000000000000) && decide (G + load ≤ 1000000000000)))
def stpB (C M G F load fill : Int) : Bool := batB C M G F && movB G F load fill
theorem bat_yes {C M G F : Int} (h : batB C M G F = true) : (0 ≤ C ∧ C ≤ M) ∧ (0 ≤ M ∧ M ≤ 1000000000000) ∧ (0 ≤ G ∧ G ≤ 1000000000000) ∧ (0 ≤ F ∧ F ≤ 1000000000000) ∧ C = F - G := by
  unfold batB inB at h
  simp only [Bool.and_eq_true, decide_eq_true_iff] at h
  omega
theorem mov_yes {G F load fill : Int} (h : movB G F load fill = true) : (0 ≤ load ∧ load ≤ 1000000000) ∧ (0 ≤ fill ∧ fill ≤ 1000000000) ∧ F + fill ≤ 1000000000000 ∧ G + load ≤ 1000000000000 := by
  unfold movB inB at h
  simp only [Bool.and_eq_true, decide_eq_true_iff] at h
  omega
theorem bat_eq (C M G F : Int) : (inB 0 M C && (inB 0 1000000000000 M && (inB 0 1000000000000 G && (inB 0 1000000000000 F && decide (C = F - G))))) = batB C M G F := by
  unfold batB inB
  rw [Bool.eq_iff_iff]
  simp only [Bool.and_eq_true, decide_eq_true_iff]
  omega
set_option maxHeartbeats 2000000 in
theorem batRight_any (C M G F : Int) (w : World) : Calls Try.prog 32 #[.agg #[.int .i64 C, .int .i64 M, .int .i64 G, .int .i64 F]] w fun e w' => e = .returned (.bool (batB C M G F)) ∧ Below w.heap.size w w' := by
  go_enter Try.func32, Try.ntmps32
  go_wp2_with fail
  refine (within_is _ _ _ _).mono ?_
  rintro e w1 ⟨rfl, rfl⟩
  cases h0 : inB 0 1000000000000 C
  · go_wp2
    go_ret
    exact ⟨ret_bool (by unfold batB; simp [h0]), (by repeat (first | with_reducible exact Below.refl _ _ | with_reducible refine Below.setCell ?_ (by first | omega | (simp; done) | (simp; omega)) _ | with_reducible refine bDrewN ?_ _ | with_reducible refine Below.drew ?_ | with_reducible refine Below.alloc ?_ (by first | omega | (simp; done) | (simp; omega)) _))⟩
  go_wp2_with fail
  refine (within_is _ _ _ _).mono ?_
  rintro e w1 ⟨rfl, rfl⟩
  cases h1 : inB 0 1000000000000 M
  · go_wp2
    go_ret
    exact ⟨ret_bool (by unfold batB; simp [h0, h1]), (by repeat (first | with_reducible exact Below.refl _ _ | with_reducible refine Below.setCell ?_ (by first | omega | (simp; done) | (simp; omega)) _ | with_reducible refine bDrewN ?_ _ | with_reducible refine Below.drew ?_ | with_reducible refine Below.alloc ?_ (by first | omega | (simp; done) | (simp; omega)) _))⟩
  go_wp2_with fail
  refine (within_is _ _ _ _).mono ?_
  rintro e w1 ⟨rfl, rfl⟩
  cases h2 : inB 0 1000000000000 G
  · go_wp2
    go_ret
    exact ⟨ret_bool (by unfold batB; simp [h0, h1, h2]), (by repeat (first | with_reducible exact Below.refl _ _ | with_reducible refine Below.setCell ?_ (by first | omega | (simp; done) | (simp; omega)) _ | with_reducible refine bDrewN ?_ _ | with_reducible refine Below.drew ?_ | with_reducible refine Below.alloc ?_ (by first | omega | (simp; done) | (simp; omega)) _))⟩
  go_wp2_with fail
  refine (within_is _ _ _ _).mono ?_
  rintro e w1 ⟨rfl, rfl⟩
  cases h3 : inB 0 1000000000000 F
  · go_wp2
    go_ret
    exact ⟨ret_bool (by unfold batB; simp [h0, h1, h2, h3]), (by repeat (first | with_reducible exact Below.refl _ _ | with_reducible refine Below.setCell ?_ (by first | omega | (simp; done) | (simp; omega)) _ | with_reducible refine bDrewN ?_ _ | with_reducible refine Below.drew ?_ | with_reducible refine Below.alloc ?_ (by first | omega | (simp; done) | (simp; omega)) _))⟩
  obtain ⟨-, -⟩ := inB_yes h0
  obtain ⟨g1, g2⟩ := inB_yes h2
  obtain ⟨f1, f2⟩ := inB_yes h3
  by_cases l1 : C ≤ M
  · have b1 : decide (C ≤ M) = true := by simpa using l1
    go_wp2
    go_ret
    exact ⟨ret_bool (by unfold batB; simp [h0, h1, h2, h3, l1, Bool.beq_eq_decide_eq]), (by repeat (first | with_reducible exact Below.refl _ _ | with_reducible refine Below.setCell ?_ (by first | omega | (simp; done) | (simp; omega)) _ | with_reducible refine bDrewN ?_ _ | with_reducible refine Below.drew ?_ | with_reducible refine Below.alloc ?_ (by first | omega | (simp; done) | (simp; omega)) _))⟩
  · have b1 : decide (C ≤ M) = false := by simpa using l1
    go_wp2
    go_ret
    exact ⟨ret_bool (by unfold batB; simp [b1]), (by repeat (first | with_reducible exact Below.refl _ _ | with_reducible refine Below.setCell ?_ (by first | omega | (simp; done) | (simp; omega)) _ | with_reducible refine bDrewN ?_ _ | with_reducible refine Below.drew ?_ | with_reducible refine Below.alloc ?_ (by first | omega | (simp; done) | (simp; omega)) _))⟩
set_option maxHeartbeats 2000000 in
theorem l11Battery_any (C M G F : Int) (w : World) : Calls Try.prog 31 #[.agg #[.int .i64 C, .int .i64 M, .int .i64 G, .int .i64 F]] w fun e w' => e = .returned (.bool (batB C M G F)) ∧ Below w.heap.size w w' := by
  rw [← bat_eq]
  go_enter Try.func31, Try.ntmps31
  go_wp2_with fail
  refine (l1In_is _ _ _ _).mono ?_
  rintro e w1 ⟨rfl, rfl⟩
  cases h0 : inB 0 M C
  · go_wp2
    go_ret
    exact ⟨ret_bool (by simp [h0]), (by repeat (first | with_reducible exact Below.refl _ _ | with_reducible refine Below.setCell ?_ (by first | omega | (simp; done) | (simp; omega)) _ | with_reducible refine bDrewN ?_ _ | with_reducible refine Below.drew ?_ | with_reducible refine Below.alloc ?_ (by first | omega | (simp; done) | (simp; omega)) _))⟩
  go_wp2_with fail
  refine (l1In_is _ _ _ _).mono ?_
  rintro e w1 ⟨rfl, rfl⟩
  cases h1 : inB 0 1000000000000 M
  · go_wp2
    go_ret
    exact ⟨ret_bool (by simp [h0, h1]), (by repeat (first | with_reducible exact Below.refl _ _ | with_reducible refine Below.setCell ?_ (by first | omega | (simp; done) | (simp; omega)) _ | with_reducible refine bDrewN ?_ _ | with_reducible refine Below.drew ?_ | with_reducible refine Below.alloc ?_ (by first | omega | (simp; done) | (simp; omega)) _))⟩
  go_wp2_with fail
  refine (l1In_is _ _ _ _).mono ?_
  rintro e w1 ⟨rfl, rfl⟩
  cases h2 : inB 0 1000000000000 G
  · go_wp2
    go_ret
    exact ⟨ret_bool (by simp [h0, h1, h2]), (by repeat (first | with_reducible exact Below.refl _ _ | with_reducible refine Below.setCell ?_ (by first | omega | (simp; done) | (simp; omega)) _ | with_reducible refine bDrewN ?_ _ | with_reducible refine Below.drew ?_ | with_reducible refine Below.alloc ?_ (by first | omega | (simp; done) | (simp; omega)) _))⟩
  go_wp2_with fail
  refine (l1In_is _ _ _ _).mono ?_
  rintro e w1 ⟨rfl, rfl⟩
  cases h3 : inB 0 1000000000000 F
  · go_wp2
    go_ret
    exact ⟨ret_bool (by simp [h0, h1, h2, h3]), (by repeat (first | with_reducible exact Below.refl _ _ | with_reducible refine Below.setCell ?_ (by first | omega | (simp; done) | (simp; omega)) _ | with_reducible refine bDrewN ?_ _ | with_reducible refine Below.drew ?_ | with_reducible refine Below.alloc ?_ (by first | omega | (simp; done) | (simp; omega)) _))⟩
  obtain ⟨g1, g2⟩ := inB_yes h2
  obtain ⟨f1, f2⟩ := inB_yes h3
  go_wp2
  go_ret
  exact ⟨ret_bool (by simp [h0, h1, h2, h3, Bool.beq_eq_decide_eq]), (by repeat (first | with_reducible exact Below.refl _ _ | with_reducible refine Below.setCell ?_ (by first | omega | (simp; done) | (simp; omega)) _ | with_reducible refine bDrewN ?_ _ | with_reducible refine Below.drew ?_ | with_reducible refine Below.alloc ?_ (by first | omega | (simp; done) | (simp; omega)) _))⟩
set_option maxHeartbeats 2000000 in
theorem bookTakes_any (C M G F load fill : Int) (w : World) (b : batB C M G F = true) : Calls Try.prog 33 #[.agg #[.int .i64 C, .int .i64 M, .int .i64 G, .int .i64 F], .int .i64 load, .int .i64 fill] w fun e w' => e = .returned (.bool (movB G F load fill)) ∧ Below w.heap.size w w' := by
  obtain ⟨-, -, ⟨g1, g2⟩, ⟨f1, f2⟩, -⟩ := bat_yes b
  clear b
  go_enter Try.func33, Try.ntmps33
  go_wp2_with fail
  refine (within_is _ _ _ _).mono ?_
  rintro e w1 ⟨rfl, rfl⟩
  cases h0 : inB 0 1000000000 load
  · go_wp2
    go_ret
    exact ⟨ret_bool (by unfold movB; simp [h0]), (by repeat (first | with_reducible exact Below.refl _ _ | with_reducible refine Below.setCell ?_ (by first | omega | (simp; done) | (simp; omega)) _ | with_reducible refine bDrewN ?_ _ | with_reducible refine Below.drew ?_ | with_reducible refine Below.alloc ?_ (by first | omega | (simp; done) | (simp; omega)) _))⟩
  go_wp2_with fail
  refine (within_is _ _ _ _).mono ?_
  rintro e w1 ⟨rfl, rfl⟩
  cases h1 : inB 0 1000000000 fill
  · go_wp2
    go_ret
    exact ⟨ret_bool (by unfold movB; simp [h0, h1]), (by repeat (first | with_reducible exact Below.refl _ _ | with_reducible refine Below.setCell ?_ (by first | omega | (simp; done) | (simp; omega)) _ | with_reducible refine bDrewN ?_ _ | with_reducible refine Below.drew ?_ | with_reducible refine Below.alloc ?_ (by first | omega | (simp; done) | (simp; omega)) _))⟩
  obtain ⟨u1, u2⟩ := inB_yes h0
  obtain ⟨v1, v2⟩ := inB_yes h1
  by_cases l1 : F + fill ≤ 1000000000000
  · have b1 : decide (F + fill ≤ 1000000000000) = true := by simpa using l1
    go_wp2
    go_ret
    exact ⟨ret_bool (by unfold movB; simp [h0, h1, l1]), (by repeat (first | with_reducible exact Below.refl _ _ | with_reducible refine Below.setCell ?_ (by first | omega | (simp; done) | (simp; omega)) _ | with_reducible refine bDrewN ?_ _ | with_reducible refine Below.drew ?_ | with_reducible refine Below.alloc ?_ (by first | omega | (simp; done) | (simp; omega)) _))⟩
  · have b1 : decide (F + fill ≤ 1000000000000) = false := by simpa using l1
    go_wp2
    go_ret
    exact ⟨ret_bool (by unfold movB; simp [b1]), (by repeat (first | with_reducible exact Below.refl _ _ | with_reducible refine Below.setCell ?_ (by first | omega | (simp; done) | (simp; omega)) _ | with_reducible refine bDrewN ?_ _ | with_reducible refine Below.drew ?_ | with_reducible refine Below.alloc ?_ (by first | omega | (simp; done) | (simp; omega)) _))⟩
set_option maxHeartbeats 800000 in
theorem toBattery_is (C M G F : Int) (w : World) : Calls Try.prog 15 #[.agg #[.int .i64 C, .int .i64 M, .int .i64 G, .int .i64 F]] w fun e w' => e = .returned (.agg #[.int .i64 C, .int .i64 M, .int .i64 G, .int .i64 F]) ∧ w' = ((w.alloc (.cells #[.int .i64 C, .int .i64 M, .int .i64 G, .int .i64 F] 33)).alloc (.cells #[.int .i64 C, .int .i64 M, .int .i64 G, .int .i64 F] 34)).alloc (.cells #[.int .i64 C, .int .i64 M, .int .i64 G, .int .i64 F] 34) := by
  go_enter Try.func15, Try.ntmps15
  go_wp2
  exact bodyPost_ret (v := .agg #[.int .i64 C, .int .i64 M, .int .i64 G, .int .i64 F]) (by simp [results, Try.results15, go_sem]) rfl ⟨rfl, rfl⟩
theorem toBattery_below (C M G F : Int) (w : World) : Calls Try.prog 15 #[.agg #[.int .i64 C, .int .i64 M, .int .i64 G, .int .i64 F]] w fun e w' => e = .returned (.agg #[.int .i64 C, .int .i64 M, .int .i64 G, .int .i64 F]) ∧ Below w.heap.size w w' :=
  (toBattery_is C M G F w).mono fun e w' ⟨h, hw⟩ => ⟨h, by rw [hw]; exact (by repeat (first | with_reducible exact Below.refl _ _ | with_reducible refine Below.setCell ?_ (by first | omega | (simp; done) | (simp; omega)) _ | with_reducible refine bDrewN ?_ _ | with_reducible refine Below.drew ?_ | with_reducible refine Below.alloc ?_ (by first | omega | (simp; done) | (simp; omega)) _))⟩
set_option maxHeartbeats 400000 in
theorem eqBattery_any (C M G F : Int) (w : World) : Calls Try.prog 17 #[.agg #[.int .i64 C, .int .i64 M, .int .i64 G, .int .i64 F], .agg #[.int .i64 C, .int .i64 M, .int .i64 G, .int .i64 F]] w fun e w' => e = .returned (.bool true) ∧ Below w.heap.size w w' := by
  go_enter Try.func17, Try.ntmps17
  go_wp2
  go_ret
  exact ⟨rfl, (by repeat (first | with_reducible exact Below.refl _ _ | with_reducible refine Below.setCell ?_ (by first | omega | (simp; done) | (simp; omega)) _ | with_reducible refine bDrewN ?_ _ | with_reducible refine Below.drew ?_ | with_reducible refine Below.alloc ?_ (by first | omega | (simp; done) | (simp; omega)) _))⟩
theorem keepBa {W W' : World} {p : Nat} {a0 a1 a2 a3 : Value} (h0 : W.cell? ⟨p, 0, none⟩ = some a0) (h1 : W.cell? ⟨p, 1, none⟩ = some a1) (h2 : W.cell? ⟨p, 2, none⟩ = some a2) (h3 : W.cell? ⟨p, 3, none⟩ = some a3) (zp : p < W.heap.size) (hb : Below W.heap.size W W') : W'.cell? ⟨p, 0, none⟩ = some a0 ∧ W'.cell? ⟨p, 1, none⟩ = some a1 ∧ W'.cell? ⟨p, 2, none⟩ = some a2 ∧ W'.cell? ⟨p, 3, none⟩ = some a3 :=
  ⟨(hb.cell (p := ⟨p, 0, none⟩) zp).trans h0, (hb.cell (p := ⟨p, 1, none⟩) zp).trans h1, (hb.cell (p := ⟨p, 2, none⟩) zp).trans h2, (hb.cell (p := ⟨p, 3, none⟩) zp).trans h3⟩
/-- What comes to a battery, and what goes. -/
def inV (C M fill : Int) : Int := if M - C < fill then M - C else fill
def outB (c load : Int) : Int := if c < load then c else load
theorem in_is (C M fill : Int) (h : C ≤ M) (h2 : 0 ≤ fill) : 0 ≤ inV C M fill ∧ inV C M fill ≤ fill ∧ inV C M fill ≤ M - C := by unfold inV; split <;> omega
theorem out_is (c load : Int) (h : 0 ≤ c) (h2 : 0 ≤ load) : 0 ≤ outB c load ∧ outB c load ≤ load ∧ outB c load ≤ c := by unfold outB; split <;> omega
def nC (C M G F load fill : Int) : Int := if stpB C M G F load fill = true then C + inV C M fill - outB (C + inV C M fill) load else 0
def nM (C M G F load fill : Int) : Int := if stpB C M G F load fill = true then M else 0
def nG (C M G F load fill : Int) : Int := if stpB C M G F load fill = true then G + outB (C + inV C M fill) load else 0
def nF (C M G F load fill : Int) : Int := if stpB C M G F load fill = true then F + inV C M fill else 0
def nL (C M G F load fill : Int) : Int := if stpB C M G F load fill = true then load - outB (C + inV C M fill) load else 0
end Go.Proofs.Ytdoekgnmbdekgaa
