/-
What is proved: what a third of a pair, the two turns and the sum of a pair with two turned ones are, up to a NaN's bits, as both packages tell them.
-/
import Derived.Test.YtjahjhddokaopaaPairRK
namespace Go.Proofs.Ytjahjhddokaopaa
set_option maxRecDepth 40000
open Go.RowKit
set_option linter.unusedVariables false
set_option linter.unusedSimpArgs false

def T1 : Option Nat := some 13826050856027422720
def T2 : Option Nat := some 4605975682916830378
def U2 : Option Nat := some 13829347719771606186
theorem fl_T1 : Fl 13826050856027422720 T1 := ⟨by decide, .inl ⟨by decide, rfl⟩⟩
theorem fl_T2 : Fl 4605975682916830378 T2 := ⟨by decide, .inl ⟨by decide, rfl⟩⟩
theorem fl_U2 : Fl 13829347719771606186 U2 := ⟨by decide, .inl ⟨by decide, rfl⟩⟩
theorem fl_three : Fl 4613937818241073152 (some 4613937818241073152) := ⟨by decide, .inl ⟨by decide, rfl⟩⟩
def thirdO (o : Option Nat) : Option Nat := opO .quo o (some 4613937818241073152)
/-- A pair and two others, each times a turn. -/
def sumRe (a t t' b b' u u' c c' : Option Nat) : Option Nat := opO .add (opO .add a (mulRe t t' b b')) (mulRe u u' c c')
def sumIm (a' t t' b b' u u' c c' : Option Nat) : Option Nat := opO .add (opO .add a' (mulIm t t' b b')) (mulIm u u' c c')
/-- Six numbers in a row. -/
def six (a b c d e f : Option Nat) (j : Nat) : Option Nat := if j = 0 then a else if j = 1 then b else if j = 2 then c else if j = 3 then d else if j = 4 then e else f
theorem own_six {W : World} {base m : Nat} {x y z u v s : Nat} {a b c d e f : Option Nat} {t : TypeId} (hm : m = W.heap.size) (hb : base ≤ W.heap.size) (h0 : Fl x a) (h1 : Fl y b) (h2 : Fl z c) (h3 : Fl u d) (h4 : Fl v e) (h5 : Fl s f) : OwnF base (W.alloc (.cells #[.float .f64 x, .float .f64 y, .float .f64 z, .float .f64 u, .float .f64 v, .float .f64 s] t)) (some ⟨m, 0, none⟩) 6 (six a b c d e f) := fun j hj => by
  subst hm
  match j, hj with
  | 0, _ => exact ⟨_, x, rfl, hb, by simp, by simp [go_sem], h0, by simp [go_sem]⟩
  | 1, _ => exact ⟨_, y, rfl, hb, by simp, by simp [go_sem], h1, by simp [go_sem]⟩
  | 2, _ => exact ⟨_, z, rfl, hb, by simp, by simp [go_sem], h2, by simp [go_sem]⟩
  | 3, _ => exact ⟨_, u, rfl, hb, by simp, by simp [go_sem], h3, by simp [go_sem]⟩
  | 4, _ => exact ⟨_, v, rfl, hb, by simp, by simp [go_sem], h4, by simp [go_sem]⟩
  | 5, _ => exact ⟨_, s, rfl, hb, by simp, by simp [go_sem], h5, by simp [go_sem]⟩
theorem rowF_low {w w' : World} {B b m : Nat} {V : Nat → Option Nat} (h : RowF w (some ⟨b, 0, none⟩) m V) (hb : Below B w w') (hB : b < B) : RowF w' (some ⟨b, 0, none⟩) m V := fun j hj => by
  obtain ⟨b', o, x, e, hl, hc, hx⟩ := h j hj
  cases e
  exact ⟨b, 0, x, rfl, Nat.lt_of_lt_of_le hl hb.size, (hb.cell (p := ⟨b, 0 + j, none⟩) hB).trans hc, hx⟩

set_option maxHeartbeats 400000 in
theorem l8Turn_any (w : World) : Calls Try.prog 28 #[] w fun e w' => e = .returned (.agg #[.float .f64 13826050856027422720, .float .f64 4605975682916830378]) ∧ w' = w.alloc (.cells #[.float .f64 13826050856027422720, .float .f64 4605975682916830378] 26) := by
  have st := store_fp
  go_enter Try.func28, Try.ntmps28
  go_wp2
  exact bodyPost_ret (v := .agg #[.float .f64 13826050856027422720, .float .f64 4605975682916830378]) (by simp [results, Try.results28, go_sem]) rfl ⟨rfl, rfl⟩
set_option maxHeartbeats 400000 in
theorem l8Back_any (w : World) : Calls Try.prog 29 #[] w fun e w' => e = .returned (.agg #[.float .f64 13826050856027422720, .float .f64 13829347719771606186]) ∧ w' = w.alloc (.cells #[.float .f64 13826050856027422720, .float .f64 13829347719771606186] 26) := by
  have st := store_fp
  go_enter Try.func29, Try.ntmps29
  go_wp2
  exact bodyPost_ret (v := .agg #[.float .f64 13826050856027422720, .float .f64 13829347719771606186]) (by simp [results, Try.results29, go_sem]) rfl ⟨rfl, rfl⟩
set_option maxHeartbeats 400000 in
theorem thirdOfTurn_any (w : World) : Calls Try.prog 22 #[] w fun e w' => e = .returned (.complex .f64 13826050856027422720 4605975682916830378) ∧ w' = w := by
  go_enter Try.func22, Try.ntmps22
  go_wp2
  go_ret
  exact ⟨rfl, rfl⟩
set_option maxHeartbeats 400000 in
theorem thirdBack_any (w : World) : Calls Try.prog 23 #[] w fun e w' => e = .returned (.complex .f64 13826050856027422720 13829347719771606186) ∧ w' = w := by
  go_enter Try.func23, Try.ntmps23
  go_wp2
  go_ret
  exact ⟨rfl, rfl⟩
set_option maxHeartbeats 1000000 in
theorem specThird_ex {x y : Nat} {a b : Option Nat} (hx : Fl x a) (hy : Fl y b) (w : World) : Calls Try.prog 30 #[.agg #[.float .f64 x, .float .f64 y]] w fun e w' => ∃ r i n, e = .returned (.agg #[.float .f64 r, .float .f64 i]) ∧ Fl r (thirdO a) ∧ Fl i (thirdO b) ∧ w' = ((w.alloc (.cells #[.float .f64 x, .float .f64 y] 26)).alloc (.cells #[.float .f64 r, .float .f64 i] 26)).drewN n := by
  have st := store_fp
  go_enter Try.func30, Try.ntmps30
  go_wp2_with (first
    | (refine list_fop .quo rfl 24 24 (.tmp 4) (.const (.float .f64 4613937818241073152)) (by rfl) (by rfl) (by rfl) (by rfl) hx fl_three ?_; intro r nr hr)
    | (refine list_fop .quo rfl 24 24 (.tmp 7) (.const (.float .f64 4613937818241073152)) (by rfl) (by rfl) (by rfl) (by rfl) hy fl_three ?_; intro i ni hi))
  exact bodyPost_ret (v := .agg #[.float .f64 r, .float .f64 i]) (by simp [results, Try.results30, go_sem]) rfl ⟨r, i, _, rfl, hr, hi, set_new2 _ _ _ _ _ _ _ _ (by simp)⟩
theorem specThird_any {x y : Nat} {a b : Option Nat} (hx : Fl x a) (hy : Fl y b) (w : World) : Calls Try.prog 30 #[.agg #[.float .f64 x, .float .f64 y]] w fun e w' => ∃ r i, e = .returned (.agg #[.float .f64 r, .float .f64 i]) ∧ Fl r (thirdO a) ∧ Fl i (thirdO b) ∧ Below w.heap.size w w' := by
  refine (specThird_ex hx hy w).mono ?_
  rintro e w' ⟨r, i, n, rfl, hr, hi, rfl⟩
  exact ⟨r, i, rfl, hr, hi, (by repeat (first | with_reducible exact Below.refl _ _ | with_reducible refine Below.setCell ?_ (by first | omega | (simp; done) | (simp; omega)) _ | with_reducible refine bDrewN ?_ _ | with_reducible refine Below.drew ?_ | with_reducible refine Below.alloc ?_ (by first | omega | (simp; done) | (simp; omega)) _))⟩
set_option maxHeartbeats 1000000 in
theorem thirdPart_any {x y : Nat} {a b : Option Nat} (hx : Fl x a) (hy : Fl y b) (w : World) : Calls Try.prog 25 #[.complex .f64 x y] w fun e w' => ∃ r i n, e = .returned (.complex .f64 r i) ∧ Fl r (thirdO a) ∧ Fl i (thirdO b) ∧ w' = w.drewN n := by
  go_enter Try.func25, Try.ntmps25
  go_wp2_with (first
    | (refine list_fop .quo rfl 24 24 (.tmp 4) (.const (.float .f64 4613937818241073152)) (by rfl) (by rfl) (by rfl) (by rfl) hx fl_three ?_; intro r nr hr)
    | (refine list_fop .quo rfl 24 24 (.tmp 7) (.const (.float .f64 4613937818241073152)) (by rfl) (by rfl) (by rfl) (by rfl) hy fl_three ?_; intro i ni hi))
  go_ret
  exact ⟨r, i, nr + ni, rfl, hr, hi, by simp [Nat.add_assoc]⟩
theorem keep10 {W W' : World} {B : Nat} {p0 p1 p2 p3 p4 : Nat} {v0 v1 v2 v3 v4 v5 v6 v7 v8 v9 : Value} (h0 : W.cell? ⟨p0, 0, none⟩ = some v0) (h1 : W.cell? ⟨p0, 1, none⟩ = some v1) (h2 : W.cell? ⟨p1, 0, none⟩ = some v2) (h3 : W.cell? ⟨p1, 1, none⟩ = some v3) (h4 : W.cell? ⟨p2, 0, none⟩ = some v4) (h5 : W.cell? ⟨p2, 1, none⟩ = some v5) (h6 : W.cell? ⟨p3, 0, none⟩ = some v6) (h7 : W.cell? ⟨p3, 1, none⟩ = some v7) (h8 : W.cell? ⟨p4, 0, none⟩ = some v8) (h9 : W.cell? ⟨p4, 1, none⟩ = some v9) (z0 : p0 < B) (z1 : p1 < B) (z2 : p2 < B) (z3 : p3 < B) (z4 : p4 < B) (hb : Below B W W') : W'.cell? ⟨p0, 0, none⟩ = some v0 ∧ W'.cell? ⟨p0, 1, none⟩ = some v1 ∧ W'.cell? ⟨p1, 0, none⟩ = some v2 ∧ W'.cell? ⟨p1, 1, none⟩ = some v3 ∧ W'.cell? ⟨p2, 0, none⟩ = some v4 ∧ W'.cell? ⟨p2, 1, none⟩ = some v5 ∧ W'.cell? ⟨p3, 0, none⟩ = some v6 ∧ W'.cell? ⟨p3, 1, none⟩ = some v7 ∧ W'.cell? ⟨p4, 0, none⟩ = some v8 ∧ W'.cell? ⟨p4, 1, none⟩ = some v9 :=
  ⟨(hb.cell (p := ⟨p0, 0, none⟩) z0).trans h0, (hb.cell (p := ⟨p0, 1, none⟩) z0).trans h1, (hb.cell (p := ⟨p1, 0, none⟩) z1).trans h2, (hb.cell (p := ⟨p1, 1, none⟩) z1).trans h3, (hb.cell (p := ⟨p2, 0, none⟩) z2).trans h4, (hb.cell (p := ⟨p2, 1, none⟩) z2).trans h5, (hb.cell (p := ⟨p3, 0, none⟩) z3).trans h6, (hb.cell (p := ⟨p3, 1, none⟩) z3).trans h7, (hb.cell (p := ⟨p4, 0, none⟩) z4).trans h8, (hb.cell (p := ⟨p4, 1, none⟩) z4).trans h9⟩
set_option maxHeartbeats 2000000 in
theorem l8Sum_any {a1 a2 t1 t2 b1 b2 u1 u2 c1 c2 : Nat} {p1 p2 q1 q2 r1 r2 s1 s2 m1 m2 : Option Nat} (ha1 : Fl a1 p1) (ha2 : Fl a2 p2) (ht1 : Fl t1 q1) (ht2 : Fl t2 q2) (hb1 : Fl b1 r1) (hb2 : Fl b2 r2) (hu1 : Fl u1 s1) (hu2 : Fl u2 s2) (hc1 : Fl c1 m1) (hc2 : Fl c2 m2) (w : World) : Calls Try.prog 32 #[.agg #[.float .f64 a1, .float .f64 a2], .agg #[.float .f64 t1, .float .f64 t2], .agg #[.float .f64 b1, .float .f64 b2], .agg #[.float .f64 u1, .float .f64 u2], .agg #[.float .f64 c1, .float .f64 c2]] w fun e w' => ∃ r i, e = .returned (.agg #[.float .f64 r, .float .f64 i]) ∧ Fl r (sumRe p1 q1 q2 r1 r2 s1 s2 m1 m2) ∧ Fl i (sumIm p2 q1 q2 r1 r2 s1 s2 m1 m2) ∧ Below w.heap.size w w' := by
  have st := store_fp
  go_enter Try.func32, Try.ntmps32
  go_upto_region 1 with fail
  obtain ⟨wd, hwd⟩ : ∃ wd, wd = ((((((w.alloc (.cells #[.float .f64 a1, .float .f64 a2] 26)).alloc (.cells #[.float .f64 t1, .float .f64 t2] 26)).alloc (.cells #[.float .f64 b1, .float .f64 b2] 26)).alloc (.cells #[.float .f64 u1, .float .f64 u2] 26)).alloc (.cells #[.float .f64 c1, .float .f64 c2] 26)).alloc (.cells #[.float .f64 0, .float .f64 0] 26)) := ⟨_, rfl⟩
  rw [← hwd]
  have g0 : wd.cell? ⟨w.heap.size, 0, none⟩ = some (.float .f64 a1) := by rw [hwd]; simp (maxDischargeDepth := 12) [go_sem]
  have g1 : wd.cell? ⟨w.heap.size, 1, none⟩ = some (.float .f64 a2) := by rw [hwd]; simp (maxDischargeDepth := 12) [go_sem]
  have g2 : wd.cell? ⟨w.heap.size + 1, 0, none⟩ = some (.float .f64 t1) := by rw [hwd]; simp (maxDischargeDepth := 12) [go_sem]
  have g3 : wd.cell? ⟨w.heap.size + 1, 1, none⟩ = some (.float .f64 t2) := by rw [hwd]; simp (maxDischargeDepth := 12) [go_sem]
  have g4 : wd.cell? ⟨w.heap.size + 1 + 1, 0, none⟩ = some (.float .f64 b1) := by rw [hwd]; simp (maxDischargeDepth := 12) [go_sem]
  have g5 : wd.cell? ⟨w.heap.size + 1 + 1, 1, none⟩ = some (.float .f64 b2) := by rw [hwd]; simp (maxDischargeDepth := 12) [go_sem]
  have g6 : wd.cell? ⟨w.heap.size + 1 + 1 + 1, 0, none⟩ = some (.float .f64 u1) := by rw [hwd]; simp (maxDischargeDepth := 12) [go_sem]
  have g7 : wd.cell? ⟨w.heap.size + 1 + 1 + 1, 1, none⟩ = some (.float .f64 u2) := by rw [hwd]; simp (maxDischargeDepth := 12) [go_sem]
  have g8 : wd.cell? ⟨w.heap.size + 1 + 1 + 1 + 1, 0, none⟩ = some (.float .f64 c1) := by rw [hwd]; simp (maxDischargeDepth := 12) [go_sem]
  have g9 : wd.cell? ⟨w.heap.size + 1 + 1 + 1 + 1, 1, none⟩ = some (.float .f64 c2) := by rw [hwd]; simp (maxDischargeDepth := 12) [go_sem]
  have k0 : wd.cell? ⟨w.heap.size + 1 + 1 + 1 + 1 + 1, 0, none⟩ = some (.float .f64 0) := by rw [hwd]; simp [go_sem]
  have k1 : wd.cell? ⟨w.heap.size + 1 + 1 + 1 + 1 + 1, 1, none⟩ = some (.float .f64 0) := by rw [hwd]; simp [go_sem]
  have f0 : wd.frozen? ⟨w.heap.size + 1 + 1 + 1 + 1 + 1, 0, none⟩ = false := by rw [hwd]; simp [go_sem]
  have f1 : wd.frozen? ⟨w.heap.size + 1 + 1 + 1 + 1 + 1, 1, none⟩ = false := by rw [hwd]; simp [go_sem]
  have z0 : w.heap.size < wd.heap.size := by rw [hwd]; simp <;> omega
  have z1 : w.heap.size + 1 < wd.heap.size := by rw [hwd]; simp <;> omega
  have z2 : w.heap.size + 1 + 1 < wd.heap.size := by rw [hwd]; simp <;> omega
  have z3 : w.heap.size + 1 + 1 + 1 < wd.heap.size := by rw [hwd]; simp <;> omega
  have z4 : w.heap.size + 1 + 1 + 1 + 1 < wd.heap.size := by rw [hwd]; simp <;> omega
  have z5 : w.heap.size + 1 + 1 + 1 + 1 + 1 < wd.heap.size := by rw [hwd]; simp <;> omega
  have B0 : Below w.heap.size w wd := by rw [hwd]; exact (by repeat (first | with_reducible exact Below.refl _ _ | with_reducible refine Below.setCell ?_ (by first | omega | (simp; done) | (simp; omega)) _ | with_reducible refine bDrewN ?_ _ | with_reducible refine Below.drew ?_ | with_reducible refine Below.alloc ?_ (by first | omega | (simp; done) | (simp; omega)) _))
  have s0 := B0.size
  have D2 : Below (w.heap.size + 1 + 1 + 1 + 1 + 1) wd wd := Below.refl _ _
  clear hwd
  go_region_held3 (fun w' => w'.cell? ⟨w.heap.size, 0, none⟩ = some (.float .f64 a1) ∧ w'.cell? ⟨w.heap.size, 1, none⟩ = some (.float .f64 a2) ∧ w'.cell? ⟨w.heap.size + 1, 0, none⟩ = some (.float .f64 t1) ∧ w'.cell? ⟨w.heap.size + 1, 1, none⟩ = some (.float .f64 t2) ∧ w'.cell? ⟨w.heap.size + 1 + 1, 0, none⟩ = some (.float .f64 b1) ∧ w'.cell? ⟨w.heap.size + 1 + 1, 1, none⟩ = some (.float .f64 b2) ∧ w'.cell? ⟨w.heap.size + 1 + 1 + 1, 0, none⟩ = some (.float .f64 u1) ∧ w'.cell? ⟨w.heap.size + 1 + 1 + 1, 1, none⟩ = some (.float .f64 u2) ∧ w'.cell? ⟨w.heap.size + 1 + 1 + 1 + 1, 0, none⟩ = some (.float .f64 c1) ∧ w'.cell? ⟨w.heap.size + 1 + 1 + 1 + 1, 1, none⟩ = some (.float .f64 c2)) (first | (refine keep10 (B := w.heap.size + 1 + 1 + 1 + 1 + 1) g0 g1 g2 g3 g4 g5 g6 g7 g8 g9 (by omega) (by omega) (by omega) (by omega) (by omega) ?_; exact (by repeat (first | with_reducible exact Below.refl _ _ | with_reducible exact D6 | with_reducible exact D5 | with_reducible exact D4 | with_reducible exact D3 | with_reducible refine Below.setCell ?_ (by first | omega | (simp; done) | (simp; omega)) _ | with_reducible refine bDrewN ?_ _ | with_reducible refine Below.drew ?_ | with_reducible refine Below.alloc ?_ (by first | omega | (simp; done) | (simp; omega)) _)))) (first
    | (go_at_call_of 37 (Value.float FloatKind.f64 t1); refine (specMulPair_any ht1 ht2 hb1 hb2 _).mono ?_; rintro e w3 ⟨x1, x2, rfl, hx1, hx2, h_⟩; have B3 : Below wd.heap.size wd w3 := Below.trans (by repeat (first | with_reducible exact Below.refl _ _ | with_reducible refine Below.setCell ?_ (by first | omega | (simp; done) | (simp; omega)) _ | with_reducible refine bDrewN ?_ _ | with_reducible refine Below.drew ?_ | with_reducible refine Below.alloc ?_ (by first | omega | (simp; done) | (simp; omega)) _)) (h_.mono (by first | omega | (simp; done) | (simp; omega))); have s3 := B3.size; have D3 : Below (w.heap.size + 1 + 1 + 1 + 1 + 1) wd w3 := B3.mono (Nat.le_of_lt z5); clear h_)
    | (go_at_call_of 31 (Value.float FloatKind.f64 a1); refine (specAddPair_any ha1 ha2 hx1 hx2 _).mono ?_; rintro e w4 ⟨y1, y2, rfl, hy1, hy2, h_⟩; have B4 : Below wd.heap.size wd w4 := Below.trans (by repeat (first | with_reducible exact Below.refl _ _ | with_reducible exact B3 | with_reducible refine Below.setCell ?_ (by first | omega | (simp; done) | (simp; omega)) _ | with_reducible refine bDrewN ?_ _ | with_reducible refine Below.drew ?_ | with_reducible refine Below.alloc ?_ (by first | omega | (simp; done) | (simp; omega)) _)) (h_.mono (by first | omega | (simp; done) | (simp; omega))); have s4 := B4.size; have D4 : Below (w.heap.size + 1 + 1 + 1 + 1 + 1) wd w4 := B4.mono (Nat.le_of_lt z5); clear h_)
    | (go_at_call_of 37 (Value.float FloatKind.f64 u1); refine (specMulPair_any hu1 hu2 hc1 hc2 _).mono ?_; rintro e w5 ⟨x3, x4, rfl, hx3, hx4, h_⟩; have B5 : Below wd.heap.size wd w5 := Below.trans (by repeat (first | with_reducible exact Below.refl _ _ | with_reducible exact B4 | with_reducible exact B3 | with_reducible refine Below.setCell ?_ (by first | omega | (simp; done) | (simp; omega)) _ | with_reducible refine bDrewN ?_ _ | with_reducible refine Below.drew ?_ | with_reducible refine Below.alloc ?_ (by first | omega | (simp; done) | (simp; omega)) _)) (h_.mono (by first | omega | (simp; done) | (simp; omega))); have s5 := B5.size; have D5 : Below (w.heap.size + 1 + 1 + 1 + 1 + 1) wd w5 := B5.mono (Nat.le_of_lt z5); clear h_)
    | (go_at_call_of 31 (Value.float FloatKind.f64 y1); refine (specAddPair_any hy1 hy2 hx3 hx4 _).mono ?_; rintro e w6 ⟨r, i, rfl, hr, hi, h_⟩; have B6 : Below wd.heap.size wd w6 := Below.trans (by repeat (first | with_reducible exact Below.refl _ _ | with_reducible exact B5 | with_reducible exact B4 | with_reducible exact B3 | with_reducible refine Below.setCell ?_ (by first | omega | (simp; done) | (simp; omega)) _ | with_reducible refine bDrewN ?_ _ | with_reducible refine Below.drew ?_ | with_reducible refine Below.alloc ?_ (by first | omega | (simp; done) | (simp; omega)) _)) (h_.mono (by first | omega | (simp; done) | (simp; omega))); have s6 := B6.size; have D6 : Below (w.heap.size + 1 + 1 + 1 + 1 + 1) wd w6 := B6.mono (Nat.le_of_lt z5); clear h_; have k0' := (B6.cell (p := ⟨w.heap.size + 1 + 1 + 1 + 1 + 1, 0, none⟩) z5).trans k0; have k1' := (B6.cell (p := ⟨w.heap.size + 1 + 1 + 1 + 1 + 1, 1, none⟩) z5).trans k1; have f0' := (B6.frozen (p := ⟨w.heap.size + 1 + 1 + 1 + 1 + 1, 0, none⟩) z5).trans f0; have f1' := (B6.frozen (p := ⟨w.heap.size + 1 + 1 + 1 + 1 + 1, 1, none⟩) z5).trans f1))
  all_goals
    have Bx : Below w.heap.size w w6 := B0.trans (B6.mono s0)
    go_wp2
    exact bodyPost_ret (v := .agg #[.float .f64 r, .float .f64 i]) (by simp [results, Try.results32, go_sem, k0', k1']) rfl ⟨r, i, rfl, hr, hi, (by repeat (first | with_reducible exact Below.refl _ _ | with_reducible exact Bx | with_reducible refine Below.setCell ?_ (by first | omega | (simp; done) | (simp; omega)) _ | with_reducible refine bDrewN ?_ _ | with_reducible refine Below.drew ?_ | with_reducible refine Below.alloc ?_ (by first | omega | (simp; done) | (simp; omega)) _))⟩
end Go.Proofs.Ytjahjhddokaopaa
