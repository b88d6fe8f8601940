/-
What is proved: what impl.clocksMisfit finds of limits and clocks.
-/
import Derived.Test.YtmoeoepinlcmdaaDoorCl
import Derived.Deep.RegionHeld3
import Derived.Deep.DeepCutAuto
namespace Go.Proofs.YtmoeoepinlcmdaaDoor
set_option maxRecDepth 40000
open Go.ChangeShapes Go.WideShapes Go.ChangeAt Go.RowKit
set_option linter.unusedVariables false
set_option linter.unusedSimpArgs false

theorem retMis {v : Value} {b : Bool} {w w' : World} (h : MisV v b) (hb : Below w.heap.size w w') : ∃ x, Ending.returned v = Ending.returned x ∧ MisV x b ∧ Below w.heap.size w w' := ⟨v, rfl, h, hb⟩
set_option maxHeartbeats 1000000 in
theorem belongs_any (r : Int) (l : Bool) (a b : Int) (w : World) :
    Calls Tryd.prog 50 #[.agg #[.int .i64 r, .bool l], .agg #[.int .i64 a, .int .i64 b]] w fun e w' => e = .returned (.bool (clkB (a, b) (r, l))) ∧ Below w.heap.size w w' := by
  go_enter Tryd.func50, Tryd.ntmps50
  go_wp2_with fail
  refine (within_is _ _ _ _).mono ?_
  rintro e w1 ⟨rfl, rfl⟩
  cases e0 : inB (-1) b r
  · have HO : Hid (clkB (a, b) (r, l) = false) := by show _ = _; unfold clkB; simp only; rw [e0]; rfl
    go_wp2
    go_ret
    exact ⟨ret_bool HO.out.symm, (by repeat (first | with_reducible exact Below.refl _ _ | with_reducible refine Below.setCell ?_ (by first | omega | (simp; done) | (simp; omega)) _ | with_reducible refine bDrewN ?_ _ | with_reducible refine Below.drew ?_ | with_reducible refine Below.alloc ?_ (by first | omega | (simp; done) | (simp; omega)) _))⟩
  · have HO : Hid (clkB (a, b) (r, l) = (l == decide (r = b))) := by show _ = _; unfold clkB; simp only; rw [e0]; rfl
    clear e0
    go_wp2
    go_ret
    exact ⟨ret_bool (by rw [HO.out]; rfl), (by repeat (first | with_reducible exact Below.refl _ _ | with_reducible refine Below.setCell ?_ (by first | omega | (simp; done) | (simp; omega)) _ | with_reducible refine bDrewN ?_ _ | with_reducible refine Below.drew ?_ | with_reducible refine Below.alloc ?_ (by first | omega | (simp; done) | (simp; omega)) _))⟩
set_option maxHeartbeats 1000000 in
theorem runs_any (r : Int) (l : Bool) (w : World) :
    Calls Tryd.prog 41 #[.agg #[.int .i64 r, .bool l]] w fun e w' => e = .returned (.bool (!decide (r = -1))) ∧ Below w.heap.size w w' := by
  go_enter Tryd.func41, Tryd.ntmps41
  go_wp2
  go_ret
  exact ⟨ret_bool (by first | rfl | simp), (by repeat (first | with_reducible exact Below.refl _ _ | with_reducible refine Below.setCell ?_ (by first | omega | (simp; done) | (simp; omega)) _ | with_reducible refine bDrewN ?_ _ | with_reducible refine Below.drew ?_ | with_reducible refine Below.alloc ?_ (by first | omega | (simp; done) | (simp; omega)) _))⟩
theorem keep5C {W W' : World} {p g u x : Nat} {y : Nat} {a b c d e : Value} (h0 : W.cell? ⟨p, 0, none⟩ = some a) (h1 : W.cell? ⟨g, x, none⟩ = some b) (h2 : W.cell? ⟨g, y, none⟩ = some c) (h3 : W.cell? ⟨u, 0, none⟩ = some d) (h4 : W.cell? ⟨u, 1, none⟩ = some e)
    (zp : p < W.heap.size) (zg : g < W.heap.size) (zu : u < W.heap.size) (hb : Below W.heap.size W W') : W'.cell? ⟨p, 0, none⟩ = some a ∧ W'.cell? ⟨g, x, none⟩ = some b ∧ W'.cell? ⟨g, y, none⟩ = some c ∧ W'.cell? ⟨u, 0, none⟩ = some d ∧ W'.cell? ⟨u, 1, none⟩ = some e :=
  ⟨(hb.cell (p := ⟨p, 0, none⟩) zp).trans h0, (hb.cell (p := ⟨g, x, none⟩) zg).trans h1, (hb.cell (p := ⟨g, y, none⟩) zg).trans h2, (hb.cell (p := ⟨u, 0, none⟩) zu).trans h3, (hb.cell (p := ⟨u, 1, none⟩) zu).trans h4⟩
set_option maxRecDepth 20000 in
set_option maxHeartbeats 4000000 in
theorem clocks1_any (p q : Nat) (s t : Option Addr) (n c d : Nat) (V : Nat → Int × Int) (U : Nat → Int × Bool) (k : Nat) (w : World) (hk : k < n) (hn : (n : Int) ≤ 60) (zp : p < w.heap.size) (zq : q < w.heap.size)
    (cp : w.cell? ⟨p, 0, none⟩ = some (.slice s n c)) (cq : w.cell? ⟨q, 0, none⟩ = some (.slice t n d)) (HR : Hid (RowLimit w s n V)) (HU : Hid (RowClock w t n U)) (HE : Hid (ErrC w)) :
    Calls Tryd.prog 49 #[.int .i64 k, .pointer (some ⟨p, 0, none⟩), .pointer (some ⟨q, 0, none⟩)] w fun e w' => ∃ v, e = .returned v ∧ ErrV v (limB (V k) && clkB (V k) (U k)) ∧ Below w.heap.size w w' := by
  obtain ⟨g, o, rfl, zg, c0, c1⟩ := HR.out k hk
  obtain ⟨h, i, rfl, zh, d0, d1⟩ := HU.out k hk
  obtain ⟨⟨a, b⟩, hV⟩ : ∃ z, V k = z := ⟨_, rfl⟩
  obtain ⟨⟨r, l⟩, hU⟩ : ∃ z, U k = z := ⟨_, rfl⟩
  rw [hV] at c0 c1 ⊢
  rw [hU] at d0 d1 ⊢
  simp only at c0 c1 d0 d1
  obtain ⟨-, -, ⟨zb, tb, xb, gb⟩, zc, tc, xc, gc⟩ := HE.out
  have k1 : (k : Int) < (n : Int) := by omega
  clear HR HU HE hV hU
  go_enter Tryd.func49, Tryd.ntmps49
  go_upto_region 2 with fail
  obtain ⟨wa, hwa⟩ : ∃ wa, wa = w.alloc (.cells #[.int .i64 a, .int .i64 b] 38) := ⟨_, rfl⟩
  rw [← hwa]
  have hb : Below w.heap.size w wa := by rw [hwa]; exact below0 _ _
  have a0 : wa.cell? ⟨w.heap.size, 0, none⟩ = some (.int .i64 a) := by rw [hwa]; simp [go_sem]
  have a1 : wa.cell? ⟨w.heap.size, 1, none⟩ = some (.int .i64 b) := by rw [hwa]; simp [go_sem]
  have za : w.heap.size < wa.heap.size := by rw [hwa]; simp
  have HB : Hid (Below w.heap.size w wa) := hb
  replace cq := (hb.cell (p := ⟨q, 0, none⟩) zq).trans cq
  replace d0 := (hb.cell (p := ⟨h, i + k * 2, none⟩) zh).trans d0
  replace d1 := (hb.cell (p := ⟨h, i + k * 2 + 1, none⟩) zh).trans d1
  replace gb := (hb.cell (p := ⟨1, 0, none⟩) zb).trans gb
  replace gc := (hb.cell (p := ⟨2, 0, none⟩) zc).trans gc
  replace zq := Nat.lt_of_lt_of_le zq hb.size
  replace zh := Nat.lt_of_lt_of_le zh hb.size
  replace zb := Nat.lt_of_lt_of_le zb hb.size
  replace zc := Nat.lt_of_lt_of_le zc hb.size
  clear hwa hb cp c0 c1 zg zp
  go_wp2_with fail
  refine (within_is _ _ _ _).mono ?_
  rintro e wa ⟨rfl, rfl⟩
  cases e0 : inB 0 255 a
  · have HO : Hid ((limB (a, b) && clkB (a, b) (r, l)) = false) := by show _ = _; unfold limB; simp only; rw [e0]; rfl
    have B1 := HB.out
    go_wp2
    go_ret
    exact ⟨_, rfl, Or.inr ⟨HO.out, _, _, rfl⟩, (by repeat (first | with_reducible exact Below.refl _ _ | with_reducible exact B1 | with_reducible refine Below.setCell ?_ (by first | omega | (simp; done) | (simp; omega)) _ | with_reducible refine bDrewN ?_ _ | with_reducible refine Below.drew ?_ | with_reducible refine Below.alloc ?_ (by first | omega | (simp; done) | (simp; omega)) _))⟩
  go_wp2_with fail
  refine (within_is _ _ _ _).mono ?_
  rintro e wa ⟨rfl, rfl⟩
  cases e1 : inB 1 10000 b
  · have HO : Hid ((limB (a, b) && clkB (a, b) (r, l)) = false) := by show _ = _; unfold limB; simp only; rw [e1]; simp
    have B1 := HB.out
    go_wp2
    go_ret
    exact ⟨_, rfl, Or.inr ⟨HO.out, _, _, rfl⟩, (by repeat (first | with_reducible exact Below.refl _ _ | with_reducible exact B1 | with_reducible refine Below.setCell ?_ (by first | omega | (simp; done) | (simp; omega)) _ | with_reducible refine bDrewN ?_ _ | with_reducible refine Below.drew ?_ | with_reducible refine Below.alloc ?_ (by first | omega | (simp; done) | (simp; omega)) _))⟩
  have HO : Hid ((limB (a, b) && clkB (a, b) (r, l)) = clkB (a, b) (r, l)) := by show _ = _; unfold limB; simp only; rw [e0, e1]; rfl
  clear e0 e1
  go_upto_region 4 with fail
  go_cut [22] (fun y wx => y = .bool (!clkB (a, b) (r, l)) ∧ Below wa.heap.size wa wx)
  case first =>
    go_region_held3 (fun w' => w'.cell? ⟨q, 0, none⟩ = some (.slice (some ⟨h, i, none⟩) n d) ∧ w'.cell? ⟨h, i + k * 2, none⟩ = some (.int .i64 r) ∧ w'.cell? ⟨h, i + k * 2 + 1, none⟩ = some (.bool l) ∧ w'.cell? ⟨w.heap.size, 0, none⟩ = some (.int .i64 a) ∧ w'.cell? ⟨w.heap.size, 1, none⟩ = some (.int .i64 b)) (first | with_reducible exact ⟨cq, d0, d1, a0, a1⟩ | (refine keep5C cq d0 d1 a0 a1 zq zh za ?_; exact (by repeat (first | with_reducible exact Below.refl _ _ | with_reducible exact B8 | with_reducible refine Below.setCell ?_ (by first | omega | (simp; done) | (simp; omega)) _ | with_reducible refine bDrewN ?_ _ | with_reducible refine Below.drew ?_ | with_reducible refine Below.alloc ?_ (by first | omega | (simp; done) | (simp; omega)) _))) | exact ⟨cq, d0, d1, a0, a1⟩) (first
      | (go_at_call 50; refine (belongs_any r l a b _).mono ?_; rintro e wz ⟨rfl, h8⟩; have B8 : Below wa.heap.size wa wz := Below.trans (by repeat (first | with_reducible exact Below.refl _ _ | with_reducible refine Below.setCell ?_ (by first | omega | (simp; done) | (simp; omega)) _ | with_reducible refine bDrewN ?_ _ | with_reducible refine Below.drew ?_ | with_reducible refine Below.alloc ?_ (by first | omega | (simp; done) | (simp; omega)) _)) (h8.mono (by first | omega | (simp; done) | (simp; omega))); clear h8))
    all_goals
      go_wp2_with fail
      go_meet
      exact ⟨rfl, B8⟩
  obtain ⟨rfl, hb⟩ := hcut
  rename World => w2
  have B1 : Below w.heap.size w w2 := HB.out.trans (hb.mono HB.out.size)
  replace gc := (hb.cell (p := ⟨2, 0, none⟩) zc).trans gc
  cases e2 : clkB (a, b) (r, l)
  · have HO2 : Hid ((limB (a, b) && clkB (a, b) (r, l)) = false) := HO.out.trans e2
    clear hb e2 HO
    go_wp2
    go_ret
    exact ⟨_, rfl, Or.inr ⟨HO2.out, _, _, rfl⟩, (by repeat (first | with_reducible exact Below.refl _ _ | with_reducible exact B1 | with_reducible refine Below.setCell ?_ (by first | omega | (simp; done) | (simp; omega)) _ | with_reducible refine bDrewN ?_ _ | with_reducible refine Below.drew ?_ | with_reducible refine Below.alloc ?_ (by first | omega | (simp; done) | (simp; omega)) _))⟩
  · have HO2 : Hid ((limB (a, b) && clkB (a, b) (r, l)) = true) := HO.out.trans e2
    clear hb e2 HO
    go_wp2
    go_ret
    exact ⟨_, rfl, Or.inl ⟨HO2.out, rfl⟩, (by repeat (first | with_reducible exact Below.refl _ _ | with_reducible exact B1 | with_reducible refine Below.setCell ?_ (by first | omega | (simp; done) | (simp; omega)) _ | with_reducible refine bDrewN ?_ _ | with_reducible refine Below.drew ?_ | with_reducible refine Below.alloc ?_ (by first | omega | (simp; done) | (simp; omega)) _))⟩
set_option maxRecDepth 20000 in
set_option maxHeartbeats 4000000 in
theorem clocksMisfit_any (s t : Option Addr) (n c m d : Nat) (V : Nat → Int × Int) (U : Nat → Int × Bool) (w : World) (hn : (n : Int) ≤ 1048576) (hm : (m : Int) ≤ 1048576) (HR : Hid (RowLimit w s n V)) (HU : Hid (RowClock w t m U)) (HE : Hid (ErrC w)) :
    Calls Tryd.prog 32 #[.slice s n c, .slice t m d] w fun e w' => ∃ v, e = .returned v ∧ MisV v (clsB n V m U) ∧ Below w.heap.size w w' := by
  obtain ⟨-, ⟨zm, tm, xm, gm⟩, -, -⟩ := HE.out
  by_cases n1 : 60 < n
  · have b1 : (60 : Int) < (n : Int) := by omega
    have HO : Hid (clsB n V m U = false) := cls_long n1
    go_enter Tryd.func32, Tryd.ntmps32
    go_wp2
    all_goals (go_ret; exact retMis (Or.inr ⟨HO.out, _, _, _, rfl⟩) (by repeat (first | with_reducible exact Below.refl _ _ | with_reducible refine Below.setCell ?_ (by first | omega | (simp; done) | (simp; omega)) _ | with_reducible refine bDrewN ?_ _ | with_reducible refine Below.drew ?_ | with_reducible refine Below.alloc ?_ (by first | omega | (simp; done) | (simp; omega)) _)))
  have b1 : decide ((60 : Int) < (n : Int)) = false := decide_eq_false (by omega)
  by_cases n2 : m = n
  · subst n2
    have HO : Hid (clsB m V m U = decide (∀ j, j < m → (limB (V j) && clkB (V j) (U j)) = true)) := cls_is (by omega)
    have m6 : (m : Int) ≤ 60 := by omega
    go_enter Tryd.func32, Tryd.ntmps32
    go_upto_region 3 with fail
    obtain ⟨wa, hwa⟩ : ∃ wa, wa = (w.alloc (.cells #[.slice s m c] 24)).alloc (.cells #[.slice t m d] 25) := ⟨_, rfl⟩
    rw [← hwa]
    have hb : Below w.heap.size w wa := by rw [hwa]; exact (by repeat (first | with_reducible exact Below.refl _ _ | with_reducible refine Below.setCell ?_ (by first | omega | (simp; done) | (simp; omega)) _ | with_reducible refine bDrewN ?_ _ | with_reducible refine Below.drew ?_ | with_reducible refine Below.alloc ?_ (by first | omega | (simp; done) | (simp; omega)) _))
    have a0 : wa.cell? ⟨w.heap.size, 0, none⟩ = some (.slice s m c) := by rw [hwa]; simp [go_sem]
    have a1 : wa.cell? ⟨w.heap.size + 1, 0, none⟩ = some (.slice t m d) := by rw [hwa]; simp [go_sem]
    have za : w.heap.size < wa.heap.size := by rw [hwa]; simp; try omega
    have zb : w.heap.size + 1 < wa.heap.size := by rw [hwa]; simp
    have HB : Hid (Below w.heap.size w wa) := hb
    have HC : Hid (∀ (k : Nat) w', k < m → Below wa.heap.size wa w' → Calls Tryd.prog 49 (#[.int .i64 k] ++ #[.pointer (some ⟨w.heap.size, 0, none⟩), .pointer (some ⟨w.heap.size + 1, 0, none⟩)]) w' fun e w2 => ∃ v, e = .returned v ∧ ErrV v (limB (V k) && clkB (V k) (U k)) ∧ Below w'.heap.size w' w2) := fun k w' hk hx =>
      clocks1_any w.heap.size (w.heap.size + 1) s t m c d V U k w' hk m6 (Nat.lt_of_lt_of_le za hx.size) (Nat.lt_of_lt_of_le zb hx.size) ((hx.cell (p := ⟨w.heap.size, 0, none⟩) za).trans a0) ((hx.cell (p := ⟨w.heap.size + 1, 0, none⟩) zb).trans a1)
        ((HR.out.below HB.out).below hx) ((HU.out.below HB.out).below hx) ((HE.out.below HB.out).below hx)
    clear hwa hb gm zm
    go_wp2_with fail
    refine (firstMisfit_any m 49 _ (fun k => limB (V k) && clkB (V k) (U k)) _ hn (fun _ _ => by kernel_rfl) HC).mono ?_
    rintro e w1 ⟨v, rfl, hv, hx⟩
    have B1 : Below w.heap.size w w1 := HB.out.trans (hx.mono HB.out.size)
    have HV : Hid (MisV v (clsB m V m U)) := by show MisV _ _; rw [HO.out]; exact hv
    clear hv hx
    go_wp2
    go_ret
    exact retMis HV.out B1
  · have b2 : decide ((m : Int) = (n : Int)) = false := decide_eq_false (by omega)
    have HO : Hid (clsB n V m U = false) := cls_odd n2
    go_enter Tryd.func32, Tryd.ntmps32
    go_wp2
    all_goals (go_ret; exact retMis (Or.inr ⟨HO.out, _, _, _, rfl⟩) (by repeat (first | with_reducible exact Below.refl _ _ | with_reducible refine Below.setCell ?_ (by first | omega | (simp; done) | (simp; omega)) _ | with_reducible refine bDrewN ?_ _ | with_reducible refine Below.drew ?_ | with_reducible refine Below.alloc ?_ (by first | omega | (simp; done) | (simp; omega)) _)))
end Go.Proofs.YtmoeoepinlcmdaaDoor
