/-
What is proved: what impl.jobsMisfit finds of jobs.
-/
import Derived.Test.YtffjhbgnhnnfiaaDoorJo
import Derived.Deep.RegionHeld3
import Derived.Deep.DeepCutAuto
namespace Go.Proofs.YtffjhbgnhnnfiaaDoor
set_option maxRecDepth 40000
open Go.ChangeShapes Go.WideShapes Go.ChangeAt Go.RowKit
set_option linter.unusedVariables false
set_option linter.unusedSimpArgs false

theorem retMisJ {v : Value} {b : Bool} {w w' : World} (h : MisV v b) (hb : Below w.heap.size w w') : ∃ x, Ending.returned v = Ending.returned x ∧ MisV x b ∧ Below w.heap.size w w' := ⟨v, rfl, h, hb⟩
set_option maxRecDepth 20000 in
set_option maxHeartbeats 4000000 in
theorem jobs1_any (p : Nat) (s : Option Addr) (n c : Nat) (X : Nat → Int) (K : Nat → Nat) (V : Nat → Nat → Int) (k : Nat) (w : World) (hk : k < n) (hn : (n : Int) ≤ 40) (hK : (K k : Int) ≤ 1048576) (zp : p < w.heap.size)
    (cp : w.cell? ⟨p, 0, none⟩ = some (.slice s n c)) (HR : Hid (RowJbs w s n X K V)) (HE : Hid (ErrJ w)) :
    Calls Tryd.prog 54 #[.int .i64 k, .pointer (some ⟨p, 0, none⟩)] w fun e w' => ∃ v, e = .returned v ∧ ErrV v (jobB k X K V) ∧ Below w.heap.size w w' := by
  obtain ⟨g, o, a, d, rfl, zg, c0, c1, hr⟩ := HR.out k hk
  obtain ⟨-, -, ⟨zb, tb, xb, gb⟩, zc, tc, xc, gc⟩ := HE.out
  have k1 : (k : Int) < (n : Int) := by omega
  have HJ : Hid (∀ x m, X k = x → K k = m → jobB k X K V = (inB 1 1000 x && (risB (V k) m && allInB 0 ((k : Int) - 1) (V k) m))) := fun x m hx hm => by unfold jobB; rw [hx, hm]
  obtain ⟨x, hx⟩ : ∃ x, X k = x := ⟨_, rfl⟩
  obtain ⟨m, hm⟩ : ∃ m, K k = m := ⟨_, rfl⟩
  have HJ2 : Hid (jobB k X K V = (inB 1 1000 x && (risB (V k) m && allInB 0 ((k : Int) - 1) (V k) m))) := HJ.out x m hx hm
  rw [hx] at c0
  rw [hm] at c1 hr hK
  have HI : Hid (RowI w a m (V k)) := hr
  clear HR HE hx hm hr HJ
  go_enter Tryd.func54, Tryd.ntmps54
  go_upto_region 2 with fail
  obtain ⟨wa, hwa⟩ : ∃ wa, wa = w.alloc (.cells #[.int .i64 x, .slice a m d] 33) := ⟨_, rfl⟩
  rw [← hwa]
  have hb : Below w.heap.size w wa := by rw [hwa]; exact below0 _ _
  have a0 : wa.cell? ⟨w.heap.size, 0, none⟩ = some (.int .i64 x) := by rw [hwa]; simp [go_sem]
  have a1 : wa.cell? ⟨w.heap.size, 1, none⟩ = some (.slice a m d) := by rw [hwa]; simp [go_sem]
  have za : w.heap.size < wa.heap.size := by rw [hwa]; simp
  have HB : Hid (Below w.heap.size w wa) := hb
  replace gb := (hb.cell (p := ⟨1, 0, none⟩) zb).trans gb
  replace gc := (hb.cell (p := ⟨2, 0, none⟩) zc).trans gc
  replace zb := Nat.lt_of_lt_of_le zb hb.size
  replace zc := Nat.lt_of_lt_of_le zc hb.size
  clear hwa hb cp c0 c1 zg zp
  go_wp2_with fail
  refine (within_is _ _ _ _).mono ?_
  rintro e wa ⟨rfl, rfl⟩
  cases e0 : inB 1 1000 x
  · have HO : Hid (jobB k X K V = false) := by show _ = _; rw [HJ2.out, e0]; rfl
    have B1 := HB.out
    go_wp2
    go_ret
    exact ⟨_, rfl, Or.inr ⟨HO.out, _, _, rfl⟩, (by repeat (first | with_reducible exact Below.refl _ _ | with_reducible exact B1 | with_reducible refine Below.setCell ?_ (by first | omega | (simp; done) | (simp; omega)) _ | with_reducible refine bDrewN ?_ _ | with_reducible refine Below.drew ?_ | with_reducible refine Below.alloc ?_ (by first | omega | (simp; done) | (simp; omega)) _))⟩
  have HJ3 : Hid (jobB k X K V = (risB (V k) m && allInB 0 ((k : Int) - 1) (V k) m)) := by show _ = _; rw [HJ2.out, e0]; rfl
  clear HJ2 e0
  go_wp2_with fail
  refine (rises_any a m d (V k) _ hK (HI.out.below HB.out)).mono ?_
  rintro e w2 ⟨rfl, h2⟩
  replace a1 := (h2.cell (p := ⟨w.heap.size, 1, none⟩) za).trans a1
  replace gc := (h2.cell (p := ⟨2, 0, none⟩) zc).trans gc
  replace zc := Nat.lt_of_lt_of_le zc h2.size
  replace za := Nat.lt_of_lt_of_le za h2.size
  have B1 : Below w.heap.size w w2 := HB.out.trans (h2.mono HB.out.size)
  clear h2 a0 gb
  cases e1 : risB (V k) m
  · have HO : Hid (jobB k X K V = false) := by show _ = _; rw [HJ3.out, e1]; rfl
    go_wp2
    go_ret
    exact ⟨_, rfl, Or.inr ⟨HO.out, _, _, rfl⟩, (by repeat (first | with_reducible exact Below.refl _ _ | with_reducible exact B1 | with_reducible refine Below.setCell ?_ (by first | omega | (simp; done) | (simp; omega)) _ | with_reducible refine bDrewN ?_ _ | with_reducible refine Below.drew ?_ | with_reducible refine Below.alloc ?_ (by first | omega | (simp; done) | (simp; omega)) _))⟩
  have HJ4 : Hid (jobB k X K V = allInB 0 ((k : Int) - 1) (V k) m) := by show _ = _; rw [HJ3.out, e1]; rfl
  clear HJ3 e1
  go_wp2_with fail
  refine (allWithin_any a m d (V k) _ _ _ hK (HI.out.below B1)).mono ?_
  rintro e w2 ⟨rfl, rfl⟩
  cases e2 : allInB 0 ((k : Int) - 1) (V k) m
  · have HO : Hid (jobB k X K V = false) := HJ4.out.trans e2
    clear HJ4 e2
    go_wp2
    go_ret
    exact ⟨_, rfl, Or.inr ⟨HO.out, _, _, rfl⟩, (by repeat (first | with_reducible exact Below.refl _ _ | with_reducible exact B1 | with_reducible refine Below.setCell ?_ (by first | omega | (simp; done) | (simp; omega)) _ | with_reducible refine bDrewN ?_ _ | with_reducible refine Below.drew ?_ | with_reducible refine Below.alloc ?_ (by first | omega | (simp; done) | (simp; omega)) _))⟩
  · have HO : Hid (jobB k X K V = true) := HJ4.out.trans e2
    clear HJ4 e2
    go_wp2
    go_ret
    exact ⟨_, rfl, Or.inl ⟨HO.out, rfl⟩, (by repeat (first | with_reducible exact Below.refl _ _ | with_reducible exact B1 | with_reducible refine Below.setCell ?_ (by first | omega | (simp; done) | (simp; omega)) _ | with_reducible refine bDrewN ?_ _ | with_reducible refine Below.drew ?_ | with_reducible refine Below.alloc ?_ (by first | omega | (simp; done) | (simp; omega)) _))⟩
set_option maxRecDepth 20000 in
set_option maxHeartbeats 4000000 in
theorem jobsMisfit_any (s : Option Addr) (n c : Nat) (X : Nat → Int) (K : Nat → Nat) (V : Nat → Nat → Int) (w : World) (hn : (n : Int) ≤ 1048576) (HK : Hid (∀ i, i < n → (K i : Int) ≤ 1048576)) (HR : Hid (RowJbs w s n X K V)) (HE : Hid (ErrJ w)) :
    Calls Tryd.prog 31 #[.slice s n c] w fun e w' => ∃ v, e = .returned v ∧ MisV v (jobsB n X K V) ∧ Below w.heap.size w w' := by
  obtain ⟨-, ⟨zm, tm, xm, gm⟩, -, -⟩ := HE.out
  by_cases n1 : 40 < n
  · have b1 : (40 : Int) < (n : Int) := by omega
    have HO : Hid (jobsB n X K V = false) := jobs_long n1
    go_enter Tryd.func31, Tryd.ntmps31
    go_wp2
    go_ret
    exact retMisJ (Or.inr ⟨HO.out, _, _, _, rfl⟩) (by repeat (first | with_reducible exact Below.refl _ _ | with_reducible refine Below.setCell ?_ (by first | omega | (simp; done) | (simp; omega)) _ | with_reducible refine bDrewN ?_ _ | with_reducible refine Below.drew ?_ | with_reducible refine Below.alloc ?_ (by first | omega | (simp; done) | (simp; omega)) _))
  have b1 : decide ((40 : Int) < (n : Int)) = false := decide_eq_false (by omega)
  have HO : Hid (jobsB n X K V = decide (∀ j, j < n → jobB j X K V = true)) := jobs_is (by omega)
  have m6 : (n : Int) ≤ 40 := by omega
  go_enter Tryd.func31, Tryd.ntmps31
  go_upto_region 3 with fail
  obtain ⟨wa, hwa⟩ : ∃ wa, wa = w.alloc (.cells #[.slice s n c] 24) := ⟨_, rfl⟩
  rw [← hwa]
  have hb : Below w.heap.size w wa := by rw [hwa]; exact (by repeat (first | with_reducible exact Below.refl _ _ | with_reducible refine Below.setCell ?_ (by first | omega | (simp; done) | (simp; omega)) _ | with_reducible refine bDrewN ?_ _ | with_reducible refine Below.drew ?_ | with_reducible refine Below.alloc ?_ (by first | omega | (simp; done) | (simp; omega)) _))
  have a0 : wa.cell? ⟨w.heap.size, 0, none⟩ = some (.slice s n c) := by rw [hwa]; simp [go_sem]
  have za : w.heap.size < wa.heap.size := by rw [hwa]; simp
  have HB : Hid (Below w.heap.size w wa) := hb
  have HC : Hid (∀ (k : Nat) w', k < n → Below wa.heap.size wa w' → Calls Tryd.prog 54 (#[.int .i64 k] ++ #[.pointer (some ⟨w.heap.size, 0, none⟩)]) w' fun e w2 => ∃ v, e = .returned v ∧ ErrV v (jobB k X K V) ∧ Below w'.heap.size w' w2) := fun k w' hk hx =>
    jobs1_any w.heap.size s n c X K V k w' hk m6 (HK.out k hk) (Nat.lt_of_lt_of_le za hx.size) ((hx.cell (p := ⟨w.heap.size, 0, none⟩) za).trans a0)
      ((HR.out.below HB.out).below hx) ((HE.out.below HB.out).below hx)
  clear hwa hb gm zm
  go_wp2_with fail
  refine (firstMisfit_any n 54 _ (fun k => jobB k X K V) _ hn (fun _ _ => by kernel_rfl) HC).mono ?_
  rintro e w1 ⟨v, rfl, hv, hx⟩
  have B1 : Below w.heap.size w w1 := HB.out.trans (hx.mono HB.out.size)
  have HV : Hid (MisV v (jobsB n X K V)) := by show MisV _ _; rw [HO.out]; exact hv
  clear hv hx
  go_wp2
  go_ret
  exact retMisJ HV.out B1
end Go.Proofs.YtffjhbgnhnnfiaaDoor
