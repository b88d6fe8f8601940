/-
What is proved: what the quotient of two pairs is, up to a NaN's bits, as the specification tells it.
-/
import Derived.Test.YtedkhhocbnldjaaDivPair
namespace Go.Proofs.Ytedkhhocbnldjaa
set_option maxRecDepth 40000
open Go.RowKit
set_option linter.unusedVariables false
set_option linter.unusedSimpArgs false

theorem keep4d {W W' : World} {p q : Nat} {a b c d : Value} (h0 : W.cell? ⟨p, 0, none⟩ = some a) (h1 : W.cell? ⟨p, 1, none⟩ = some b) (h2 : W.cell? ⟨q, 0, none⟩ = some c) (h3 : W.cell? ⟨q, 1, none⟩ = some d)
    (hp : p < W.heap.size) (hq : q < W.heap.size) (hb : Below W.heap.size W W') : W'.cell? ⟨p, 0, none⟩ = some a ∧ W'.cell? ⟨p, 1, none⟩ = some b ∧ W'.cell? ⟨q, 0, none⟩ = some c ∧ W'.cell? ⟨q, 1, none⟩ = some d :=
  ⟨(hb.cell (p := ⟨p, 0, none⟩) hp).trans h0, (hb.cell (p := ⟨p, 1, none⟩) hp).trans h1, (hb.cell (p := ⟨q, 0, none⟩) hq).trans h2, (hb.cell (p := ⟨q, 1, none⟩) hq).trans h3⟩

theorem new2 (w : World) (a b : Value) (t : TypeId) (m : Nat) (h : m = w.heap.size) : (w.alloc (.cells #[a, b] t)).cell? ⟨m, 0, none⟩ = some a ∧ (w.alloc (.cells #[a, b] t)).cell? ⟨m, 1, none⟩ = some b ∧ (w.alloc (.cells #[a, b] t)).frozen? ⟨m, 0, none⟩ = false ∧ (w.alloc (.cells #[a, b] t)).frozen? ⟨m, 1, none⟩ = false := by
  subst h; simp [go_sem]

set_option maxHeartbeats 1200000 in
theorem specDivPair_no {x y z u : Nat} {a b c d : Option Nat} (hx : Fl x a) (hy : Fl y b) (hz : Fl z c) (hu : Fl u d) (w : World) (h : divOk (normO c d) = false) : Calls Try.prog 24 #[.agg #[.float .f64 x, .float .f64 y], .agg #[.float .f64 z, .float .f64 u]] w fun e w' => ∃ r i, e = .returned (.agg #[.float .f64 r, .float .f64 i]) ∧ Fl r (none) ∧ Fl i (none) ∧ Below w.heap.size w w' := by
  have st := store_fp
  go_enter Try.func24, Try.ntmps24
  go_wp2_with fail
  refine (specNorm_any hz hu _).mono ?_
  rintro e w1 ⟨k, rfl, hk, h1⟩
  rw [divOk_of hk] at h
  obtain ⟨hc, hf⟩ := bcell h1
  have B1 : Below w.heap.size w w1 := Below.trans (by repeat (first | with_reducible exact Below.refl _ _ | with_reducible refine Below.setCell ?_ (by first | omega | (simp; done) | (simp; omega)) _ | with_reducible refine bDrewN ?_ _ | with_reducible refine Below.drew ?_ | with_reducible refine Below.alloc ?_ (by first | omega | (simp; done) | (simp; omega)) _)) (h1.mono (by first | omega | (simp; done) | (simp; omega)))
  have s1 := h1.size
  simp at s1
  have c0 := hc (w.heap.size + 1 + 1) 0 (by first | omega | (simp; done) | (simp; omega))
  have c1 := hc (w.heap.size + 1 + 1) 1 (by first | omega | (simp; done) | (simp; omega))
  have f0 := hf (w.heap.size + 1 + 1) 0 (by first | omega | (simp; done) | (simp; omega))
  have f1 := hf (w.heap.size + 1 + 1) 1 (by first | omega | (simp; done) | (simp; omega))
  simp [go_sem] at c0 c1 f0 f1
  clear hc hf h1
  cases hq : (FloatKind.f64.format.order k 0 == some .gt) with
  | false =>
    clear h
    go_wp2_with fail
    refine (l1None_any _).mono ?_
    rintro e w3 ⟨r, n, rfl, hr, rfl⟩
    go_wp2_with fail
    refine (l1None_any _).mono ?_
    rintro e w3 ⟨i, n2, rfl, hi, rfl⟩
    go_wp2
    exact bodyPost_ret (v := .agg #[.float .f64 r, .float .f64 i]) (by simp [results, Try.results24, go_sem, c0, c1]) rfl ⟨r, i, rfl, hr, hi, (by repeat (first | with_reducible exact Below.refl _ _ | with_reducible exact B1 | with_reducible refine Below.setCell ?_ (by first | omega | (simp; done) | (simp; omega)) _ | with_reducible refine bDrewN ?_ _ | with_reducible refine Below.drew ?_ | with_reducible refine Below.alloc ?_ (by first | omega | (simp; done) | (simp; omega)) _))⟩
  | true =>
    rw [hq, Bool.and_true] at h
    go_wp2_with fail
    refine (specKnown_any k _).mono ?_
    rintro e w2 ⟨rfl, n0, rfl⟩
    rw [h]
    go_wp2_with fail
    refine (l1None_any _).mono ?_
    rintro e w3 ⟨r, n, rfl, hr, rfl⟩
    go_wp2_with fail
    refine (l1None_any _).mono ?_
    rintro e w3 ⟨i, n2, rfl, hi, rfl⟩
    go_wp2
    exact bodyPost_ret (v := .agg #[.float .f64 r, .float .f64 i]) (by simp [results, Try.results24, go_sem, c0, c1]) rfl ⟨r, i, rfl, hr, hi, (by repeat (first | with_reducible exact Below.refl _ _ | with_reducible exact B1 | with_reducible refine Below.setCell ?_ (by first | omega | (simp; done) | (simp; omega)) _ | with_reducible refine bDrewN ?_ _ | with_reducible refine Below.drew ?_ | with_reducible refine Below.alloc ?_ (by first | omega | (simp; done) | (simp; omega)) _))⟩

set_option maxHeartbeats 2000000 in
theorem specDivPair_yes {x y z u : Nat} {a b c d : Option Nat} (hx : Fl x a) (hy : Fl y b) (hz : Fl z c) (hu : Fl u d) (w : World) (h : divOk (normO c d) = true) : Calls Try.prog 24 #[.agg #[.float .f64 x, .float .f64 y], .agg #[.float .f64 z, .float .f64 u]] w fun e w' => ∃ r i, e = .returned (.agg #[.float .f64 r, .float .f64 i]) ∧ Fl r (opO .quo (mulRe a b c (conjIm d)) (normO c d)) ∧ Fl i (opO .quo (mulIm a b c (conjIm d)) (normO c d)) ∧ Below w.heap.size w w' := by
  have st := store_fp
  have da : ∀ (W : World) (k : Nat) (o : Obj), (W.drewN k).alloc o = (W.alloc o).drewN k := fun _ _ _ => rfl
  go_enter Try.func24, Try.ntmps24
  go_wp2_with fail
  refine (specNorm_any hz hu _).mono ?_
  rintro e w1 ⟨k, rfl, hk, h1⟩
  rw [divOk_of hk, Bool.and_eq_true] at h
  obtain ⟨hb, hq⟩ := h
  obtain ⟨hc, hf⟩ := bcell h1
  have B1 : Below w.heap.size w w1 := Below.trans (by repeat (first | with_reducible exact Below.refl _ _ | with_reducible refine Below.setCell ?_ (by first | omega | (simp; done) | (simp; omega)) _ | with_reducible refine bDrewN ?_ _ | with_reducible refine Below.drew ?_ | with_reducible refine Below.alloc ?_ (by first | omega | (simp; done) | (simp; omega)) _)) (h1.mono (by first | omega | (simp; done) | (simp; omega)))
  have s1 := h1.size
  simp at s1
  have q0 := hc w.heap.size 0 (by first | omega | (simp; done) | (simp; omega))
  have q1 := hc w.heap.size 1 (by first | omega | (simp; done) | (simp; omega))
  have q2 := hc (w.heap.size + 1) 0 (by first | omega | (simp; done) | (simp; omega))
  have q3 := hc (w.heap.size + 1) 1 (by first | omega | (simp; done) | (simp; omega))
  have c0 := hc (w.heap.size + 1 + 1) 0 (by first | omega | (simp; done) | (simp; omega))
  have c1 := hc (w.heap.size + 1 + 1) 1 (by first | omega | (simp; done) | (simp; omega))
  have f0 := hf (w.heap.size + 1 + 1) 0 (by first | omega | (simp; done) | (simp; omega))
  have f1 := hf (w.heap.size + 1 + 1) 1 (by first | omega | (simp; done) | (simp; omega))
  simp [go_sem] at q0 q1 q2 q3 c0 c1 f0 f1
  have z0 : w.heap.size < w1.heap.size := by omega
  have z1 : w.heap.size + 1 < w1.heap.size := by omega
  have z2 : w.heap.size + 1 + 1 < w1.heap.size := by omega
  clear hc hf h1
  go_wp2_with fail
  refine (specKnown_any k _).mono ?_
  rintro e w2 ⟨rfl, n0, rfl⟩
  rw [hb]
  go_upto_region 4 with fail
  obtain ⟨wd, hwd⟩ : ∃ wd, wd = w1.drewN n0 := ⟨_, rfl⟩
  rw [← hwd]
  replace q0 : wd.cell? ⟨w.heap.size, 0, none⟩ = some (.float .f64 x) := by rw [hwd]; exact q0
  replace q1 : wd.cell? ⟨w.heap.size, 1, none⟩ = some (.float .f64 y) := by rw [hwd]; exact q1
  replace q2 : wd.cell? ⟨w.heap.size + 1, 0, none⟩ = some (.float .f64 z) := by rw [hwd]; exact q2
  replace q3 : wd.cell? ⟨w.heap.size + 1, 1, none⟩ = some (.float .f64 u) := by rw [hwd]; exact q3
  replace c0 : wd.cell? ⟨w.heap.size + 1 + 1, 0, none⟩ = some (.float .f64 0) := by rw [hwd]; exact c0
  replace c1 : wd.cell? ⟨w.heap.size + 1 + 1, 1, none⟩ = some (.float .f64 0) := by rw [hwd]; exact c1
  replace f0 : wd.frozen? ⟨w.heap.size + 1 + 1, 0, none⟩ = false := by rw [hwd]; exact f0
  replace f1 : wd.frozen? ⟨w.heap.size + 1 + 1, 1, none⟩ = false := by rw [hwd]; exact f1
  replace z0 : w.heap.size < wd.heap.size := by rw [hwd]; exact z0
  replace z1 : w.heap.size + 1 < wd.heap.size := by rw [hwd]; exact z1
  replace z2 : w.heap.size + 1 + 1 < wd.heap.size := by rw [hwd]; exact z2
  replace B1 : Below w.heap.size w wd := by rw [hwd]; exact bDrewN B1 _
  clear hwd s1
  go_cut [6] (fun s wx => ∃ g p q : Nat, s = .pointer (some ⟨g, 0, none⟩) ∧ wd.heap.size ≤ g ∧ wx.cell? ⟨g, 0, none⟩ = some (.float .f64 p) ∧ wx.cell? ⟨g, 1, none⟩ = some (.float .f64 q) ∧ Fl p (mulRe a b c (conjIm d)) ∧ Fl q (mulIm a b c (conjIm d)) ∧ Below wd.heap.size wd wx)
  case first =>
    go_region_held3 (fun w' => w'.cell? ⟨w.heap.size, 0, none⟩ = some (.float .f64 x) ∧ w'.cell? ⟨w.heap.size, 1, none⟩ = some (.float .f64 y) ∧ w'.cell? ⟨w.heap.size + 1, 0, none⟩ = some (.float .f64 z) ∧ w'.cell? ⟨w.heap.size + 1, 1, none⟩ = some (.float .f64 u)) (first | (refine keep4d q0 q1 q2 q3 z0 z1 ?_; exact (by repeat (first | with_reducible exact Below.refl _ _ | with_reducible exact B4 | with_reducible exact B3 | with_reducible refine Below.setCell ?_ (by first | omega | (simp; done) | (simp; omega)) _ | with_reducible refine bDrewN ?_ _ | with_reducible refine Below.drew ?_ | with_reducible refine Below.alloc ?_ (by first | omega | (simp; done) | (simp; omega)) _)))) (first
      | (go_at_call 41; refine (specConjPair_any hz hu _).mono ?_; rintro e w3 ⟨j', j, rfl, hj', hj, h3⟩; have B3 : Below wd.heap.size wd w3 := Below.trans (by repeat (first | with_reducible exact Below.refl _ _ | with_reducible refine Below.setCell ?_ (by first | omega | (simp; done) | (simp; omega)) _ | with_reducible refine bDrewN ?_ _ | with_reducible refine Below.drew ?_ | with_reducible refine Below.alloc ?_ (by first | omega | (simp; done) | (simp; omega)) _)) (h3.mono (by first | omega | (simp; done) | (simp; omega))); obtain ⟨hc3, hf3⟩ := bcell h3; have s3 := h3.size; (try simp at s3); have q0' := (B3.cell (p := ⟨w.heap.size, 0, none⟩) z0).trans q0; have q1' := (B3.cell (p := ⟨w.heap.size, 1, none⟩) z0).trans q1; (try (have c60 := (hc3 wd.heap.size 0 (by first | omega | (simp; done) | (simp; omega))).trans (new2 _ _ _ _ _ rfl).1; have c61 := (hc3 wd.heap.size 1 (by first | omega | (simp; done) | (simp; omega))).trans (new2 _ _ _ _ _ rfl).2.1; have f60 := (hf3 wd.heap.size 0 (by first | omega | (simp; done) | (simp; omega))).trans (new2 _ _ _ _ _ rfl).2.2.1; have f61 := (hf3 wd.heap.size 1 (by first | omega | (simp; done) | (simp; omega))).trans (new2 _ _ _ _ _ rfl).2.2.2)); clear hc3 hf3)
      | (go_at_call 40; refine (specMulPair_any hx hy hj' hj _).mono ?_; rintro e w4 ⟨p, q, rfl, hp, hq2, h4⟩; have B4 : Below wd.heap.size wd w4 := Below.trans (by repeat (first | with_reducible exact Below.refl _ _ | with_reducible exact B3 | with_reducible refine Below.setCell ?_ (by first | omega | (simp; done) | (simp; omega)) _ | with_reducible refine bDrewN ?_ _ | with_reducible refine Below.drew ?_ | with_reducible refine Below.alloc ?_ (by first | omega | (simp; done) | (simp; omega)) _)) (h4.mono (by first | omega | (simp; done) | (simp; omega))); obtain ⟨hc4, hf4⟩ := bcell h4; have s4 := h4.size; (try simp at s4); first | (have d60 := (hc4 wd.heap.size 0 (by first | omega | (simp; done) | (simp; omega))).trans c60; have d61 := (hc4 wd.heap.size 1 (by first | omega | (simp; done) | (simp; omega))).trans c61; have e60 := (hf4 wd.heap.size 0 (by first | omega | (simp; done) | (simp; omega))).trans f60; have e61 := (hf4 wd.heap.size 1 (by first | omega | (simp; done) | (simp; omega))).trans f61) | (have d60 := (hc4 w3.heap.size 0 (by first | omega | (simp; done) | (simp; omega))).trans (new2 _ _ _ _ _ rfl).1; have d61 := (hc4 w3.heap.size 1 (by first | omega | (simp; done) | (simp; omega))).trans (new2 _ _ _ _ _ rfl).2.1; have e60 := (hf4 w3.heap.size 0 (by first | omega | (simp; done) | (simp; omega))).trans (new2 _ _ _ _ _ rfl).2.2.1; have e61 := (hf4 w3.heap.size 1 (by first | omega | (simp; done) | (simp; omega))).trans (new2 _ _ _ _ _ rfl).2.2.2) | skip))
    all_goals
      go_wp2_with fail
      go_meet
      case rel =>
        refine ⟨_, p, q, rfl, ?_, ?_, ?_, hp, hq2, (by repeat (first | with_reducible exact Below.refl _ _ | with_reducible exact B4 | with_reducible refine Below.setCell ?_ (by first | omega | (simp; done) | (simp; omega)) _ | with_reducible refine bDrewN ?_ _ | with_reducible refine Below.drew ?_ | with_reducible refine Below.alloc ?_ (by first | omega | (simp; done) | (simp; omega)) _))⟩
        all_goals first | omega | (simp [go_sem, *]; done) | (simp [go_sem, *, Nat.add_assoc]; done) | (simp; omega) | (simp [*]; omega)
  case rest =>
    obtain ⟨g, p, q, rfl, hg, g0, g1, hp, hq2, hB⟩ := hcut
    have y0 : wc.cell? ⟨w.heap.size + 1 + 1, 0, none⟩ = some (.float .f64 0) := (hB.cell (p := ⟨w.heap.size + 1 + 1, 0, none⟩) z2).trans c0
    have y1 : wc.cell? ⟨w.heap.size + 1 + 1, 1, none⟩ = some (.float .f64 0) := (hB.cell (p := ⟨w.heap.size + 1 + 1, 1, none⟩) z2).trans c1
    have x0 : wc.frozen? ⟨w.heap.size + 1 + 1, 0, none⟩ = false := (hB.frozen (p := ⟨w.heap.size + 1 + 1, 0, none⟩) z2).trans f0
    have x1 : wc.frozen? ⟨w.heap.size + 1 + 1, 1, none⟩ = false := (hB.frozen (p := ⟨w.heap.size + 1 + 1, 1, none⟩) z2).trans f1
    have Bx : Below w.heap.size w wc := B1.trans (hB.mono (by first | omega | (simp; done) | (simp; omega)))
    clear hB c0 c1 f0 f1 q0 q1 q2 q3 B1
    go_wp2_with (first
      | (refine list_fop .quo rfl 22 22 (.tmp 25) (.tmp 26) (by rfl) (by rfl) (by rfl) (by rfl) hp hk ?_; intro r n5 hr)
      | (refine list_fop .quo rfl 22 22 (.tmp 29) (.tmp 30) (by rfl) (by rfl) (by rfl) (by rfl) hq2 hk ?_; intro i n6 hi))
    exact bodyPost_ret (v := .agg #[.float .f64 r, .float .f64 i]) (by simp [results, Try.results24, go_sem, y0, y1]) rfl ⟨r, i, rfl, hr, hi, (by repeat (first | with_reducible exact Below.refl _ _ | with_reducible exact Bx | with_reducible refine Below.setCell ?_ (by first | omega | (simp; done) | (simp; omega)) _ | with_reducible refine bDrewN ?_ _ | with_reducible refine Below.drew ?_ | with_reducible refine Below.alloc ?_ (by first | omega | (simp; done) | (simp; omega)) _))⟩
theorem specDivPair_any {x y z u : Nat} {a b c d : Option Nat} (hx : Fl x a) (hy : Fl y b) (hz : Fl z c) (hu : Fl u d) (w : World) : Calls Try.prog 24 #[.agg #[.float .f64 x, .float .f64 y], .agg #[.float .f64 z, .float .f64 u]] w fun e w' => ∃ r i, e = .returned (.agg #[.float .f64 r, .float .f64 i]) ∧ Fl r (divRe a b c d) ∧ Fl i (divIm a b c d) ∧ Below w.heap.size w w' := by
  unfold divRe divIm
  cases h : divOk (normO c d) with
  | false => exact specDivPair_no hx hy hz hu w h
  | true => exact specDivPair_yes hx hy hz hu w h
end Go.Proofs.Ytedkhhocbnldjaa
