/-
What is proved: where a sequence stands and what a tick makes of it, in numbers, and as both packages tell it.
-/
import Derived.Test.YtencmnjkkkhngaaPl
import Derived.BigQuiet
namespace Go.Proofs.Ytencmnjkkkhngaa
set_option maxRecDepth 40000
open Go.RowKit
set_option linter.unusedVariables false
set_option linter.unusedSimpArgs false

def shB (S u : Int) : Bool := bits BinOp.and IntKind.i64 (S / 2 ^ u.toNat) 1 == 1
def stnB (n : Nat) (V : Nat → Int) (a t : Int) : Bool := if modB a = true then decide (t = 0) else inB 0 ((n : Int) - 1) a && inB 0 (V (a.toNat * 5 + 2) - 1) t
def seqB (n : Nat) (V : Nat → Int) (a t S : Int) : Bool := planB n V && (stnB n V a t && inB 0 65535 S)
def nxtV (V : Nat → Int) (a t S : Int) (H : Bool) : Int × Int := if modB a = true then (a, t) else if shB S (V (a.toNat * 5 + 1)) = true then (V (a.toNat * 5 + 3), 0) else if H = true then (a, t) else if t + 1 = V (a.toNat * 5 + 2) then (V (a.toNat * 5 + 4), 0) else (a, t + 1)
def seqV (n : Nat) (V : Nat → Int) (a t S : Int) (H : Bool) : Int × Int := if seqB n V a t S = true then nxtV V a t S H else (0, 0)
def doV (V : Nat → Int) (a : Int) : Int := if modB a = true then a else V (a.toNat * 5)
theorem mod_yes {a : Int} (h : modB a = true) : -3 ≤ a ∧ a ≤ -1 := inB_yes h
theorem mod_no {a : Int} (h : modB a = false) : a < -3 ∨ -1 < a := inB_no h
theorem stn_mod {n : Nat} {V : Nat → Int} {a t : Int} (h : modB a = true) : stnB n V a t = decide (t = 0) := by unfold stnB; rw [if_pos h]
theorem stn_off {n : Nat} {V : Nat → Int} {a t : Int} (h : modB a = false) (h1 : inB 0 ((n : Int) - 1) a = false) : stnB n V a t = false := by unfold stnB; rw [if_neg (by rw [h]; simp), h1]; rfl
theorem stn_on {n : Nat} {V : Nat → Int} {a t : Int} (h : modB a = false) (h1 : inB 0 ((n : Int) - 1) a = true) : stnB n V a t = inB 0 (V (a.toNat * 5 + 2) - 1) t := by unfold stnB; rw [if_neg (by rw [h]; simp), h1]; rfl
theorem nxt_mod {V : Nat → Int} {a t S : Int} {H : Bool} (h : modB a = true) : nxtV V a t S H = (a, t) := by unfold nxtV; rw [if_pos h]
theorem mod_nat (k : Nat) : modB (k : Int) = false := by unfold modB inB; simp; omega
theorem nxt_show {V : Nat → Int} {k : Nat} {t S : Int} {H : Bool} (h : shB S (V (k * 5 + 1)) = true) : nxtV V k t S H = (V (k * 5 + 3), 0) := by unfold nxtV; rw [if_neg (by rw [mod_nat]; simp), Int.toNat_natCast, if_pos h]
theorem nxt_hold {V : Nat → Int} {k : Nat} {t S : Int} (h : shB S (V (k * 5 + 1)) = false) : nxtV V k t S true = ((k : Int), t) := by unfold nxtV; rw [if_neg (by rw [mod_nat]; simp), Int.toNat_natCast, if_neg (by rw [h]; simp), if_pos rfl]
theorem nxt_late {V : Nat → Int} {k : Nat} {t S : Int} (h : shB S (V (k * 5 + 1)) = false) (ht : t + 1 = V (k * 5 + 2)) : nxtV V k t S false = (V (k * 5 + 4), 0) := by unfold nxtV; rw [if_neg (by rw [mod_nat]; simp), Int.toNat_natCast, if_neg (by rw [h]; simp), if_neg (by simp), if_pos ht]
theorem nxt_wait {V : Nat → Int} {k : Nat} {t S : Int} (h : shB S (V (k * 5 + 1)) = false) (ht : t + 1 ≠ V (k * 5 + 2)) : nxtV V k t S false = ((k : Int), t + 1) := by unfold nxtV; rw [if_neg (by rw [mod_nat]; simp), Int.toNat_natCast, if_neg (by rw [h]; simp), if_neg (by simp), if_neg ht]
theorem quiet_at {P : Program} {f : Nat} {vs : Array Value} {w : World} {v : Value} (h : Calls P f vs w fun e w' => e = .returned v ∧ w' = w) : Calls P f vs w fun e w' => e = .returned v ∧ w' = w := h
set_option maxRecDepth 20000 in
set_option maxHeartbeats 2000000 in
theorem specStand_any (s : Option Addr) (n c : Nat) (V : Nat → Int) (a t : Int) (w : World) (hp : planB n V = true) (HR : Hid (RowI w s (n * 5) V)) :
    Calls Try.prog 35 #[.slice s n c, .agg #[.int .i64 a, .int .i64 t]] w fun e w' => e = .returned (.bool (stnB n V a t)) ∧ Below w.heap.size w w' := by
  obtain ⟨n1, n40, hj⟩ := plan_yes hp
  clear hp
  have n1' : (1 : Int) ≤ (n : Int) := by omega
  have n40' : (n : Int) ≤ 40 := by omega
  cases hm : modB a
  · cases hi : inB 0 ((n : Int) - 1) a
    · have HO : Hid (stnB n V a t = false) := stn_off hm hi
      have hx := inB_no hi
      have hmx : inB (-3) (-1) a = false := hm
      have HW : ∀ w, Calls Try.prog 29 #[.int .i64 a, .int .i64 0, .int .i64 ((n : Int) - 1)] w fun e w' => e = .returned (.bool false) ∧ w' = w := fun w => l1In_no a 0 _ w hx
      clear hx hi
      go_enter Try.func35, Try.ntmps35
      go_wp2_with fail
      refine (l1In_is _ _ _ _).mono ?_
      rintro e w1 ⟨rfl, rfl⟩
      rw [hmx]
      go_upto_region 3 with fail
      go_quiet (first | (go_at_call 29; refine Calls.quiet_of_same (HW _)))
      go_wp2
      go_ret
      exact ⟨ret_bool HO.out.symm, (by repeat (first | with_reducible exact Below.refl _ _ | with_reducible refine Below.setCell ?_ (by first | omega | (simp; done) | (simp; omega)) _ | with_reducible refine bDrewN ?_ _ | with_reducible refine Below.drew ?_ | with_reducible refine Below.alloc ?_ (by first | omega | (simp; done) | (simp; omega)) _))⟩
    · have HO : Hid (stnB n V a t = inB 0 (V (a.toNat * 5 + 2) - 1) t) := stn_on hm hi
      obtain ⟨a0, a1⟩ := inB_yes hi
      obtain ⟨k, rfl⟩ : ∃ k : Nat, a = (k : Int) := ⟨a.toNat, by omega⟩
      rw [Int.toNat_natCast] at HO
      obtain ⟨-, -, ⟨l0, l1⟩, -, -⟩ := pln_step (hj k (by omega))
      have kn : (k : Int) < (n : Int) := by omega
      obtain ⟨g, o, rfl, hg, c2⟩ := HR.out (k * 5 + 2) (by omega)
      have d2 : w.cell? ⟨g, o + k * 5 + 2, none⟩ = some (.int .i64 (V (k * 5 + 2))) := c2
      clear c2 hj
      have hmx : inB (-3) (-1) (k : Int) = false := hm
      have HW : ∀ w, Calls Try.prog 29 #[.int .i64 (k : Int), .int .i64 0, .int .i64 ((n : Int) - 1)] w fun e w' => e = .returned (.bool true) ∧ w' = w := fun w => l1In_yes _ 0 _ w a0 a1
      obtain ⟨m1, hm1⟩ : ∃ m1, (n : Int) - 1 = m1 := ⟨_, rfl⟩
      obtain ⟨L1, hL1⟩ : ∃ L1, V (k * 5 + 2) - 1 = L1 := ⟨_, rfl⟩
      rw [hm1] at HW
      rw [hL1] at HO
      have HX : ∀ w, Calls Try.prog 29 #[.int .i64 t, .int .i64 0, .int .i64 L1] w fun e w' => e = .returned (.bool (inB 0 L1 t)) ∧ w' = w := fun w => l1In_is t 0 _ w
      clear hi
      go_enter Try.func35, Try.ntmps35
      go_wp2_with fail
      refine (l1In_is _ _ _ _).mono ?_
      rintro e w1 ⟨rfl, rfl⟩
      rw [hmx]
      go_upto_region 3 with fail
      go_quiet (first | (go_at_call_of 29 (Value.int IntKind.i64 m1); refine Calls.quiet_of_same (HW _)) | (go_at_call_of 29 (Value.int IntKind.i64 L1); refine Calls.quiet_of_same (HX _)))
      go_wp2
      go_ret
      exact ⟨ret_bool HO.out.symm, (by repeat (first | with_reducible exact Below.refl _ _ | with_reducible refine Below.setCell ?_ (by first | omega | (simp; done) | (simp; omega)) _ | with_reducible refine bDrewN ?_ _ | with_reducible refine Below.drew ?_ | with_reducible refine Below.alloc ?_ (by first | omega | (simp; done) | (simp; omega)) _))⟩
  · have HO : Hid (stnB n V a t = decide (t = 0)) := stn_mod hm
    have hmx : inB (-3) (-1) a = true := hm
    go_enter Try.func35, Try.ntmps35
    go_wp2_with fail
    refine (l1In_is _ _ _ _).mono ?_
    rintro e w1 ⟨rfl, rfl⟩
    rw [hmx]
    go_wp2
    go_ret
    exact ⟨ret_bool (by rw [HO.out, Bool.beq_eq_decide_eq]), (by repeat (first | with_reducible exact Below.refl _ _ | with_reducible refine Below.setCell ?_ (by first | omega | (simp; done) | (simp; omega)) _ | with_reducible refine bDrewN ?_ _ | with_reducible refine Below.drew ?_ | with_reducible refine Below.alloc ?_ (by first | omega | (simp; done) | (simp; omega)) _))⟩
set_option maxRecDepth 20000 in
set_option maxHeartbeats 2000000 in
theorem implStand_any (s : Option Addr) (n c : Nat) (V : Nat → Int) (a t : Int) (w : World) (hp : planB n V = true) (HR : Hid (RowI w s (n * 5) V)) :
    Calls Try.prog 36 #[.agg #[.int .i64 a, .int .i64 t], .slice s n c] w fun e w' => e = .returned (.bool (stnB n V a t)) ∧ Below w.heap.size w w' := by
  obtain ⟨n1, n40, hj⟩ := plan_yes hp
  clear hp
  have n1' : (1 : Int) ≤ (n : Int) := by omega
  have n40' : (n : Int) ≤ 40 := by omega
  cases hm : modB a
  · cases hi : inB 0 ((n : Int) - 1) a
    · have HO : Hid (stnB n V a t = false) := stn_off hm hi
      have hx := inB_no hi
      have hmx : inB (-3) (-1) a = false := hm
      have HW : ∀ w, Calls Try.prog 44 #[.int .i64 a, .int .i64 0, .int .i64 ((n : Int) - 1)] w fun e w' => e = .returned (.bool false) ∧ w' = w := fun w => within_no a 0 _ w hx
      clear hx hi
      go_enter Try.func36, Try.ntmps36
      go_wp2_with fail
      refine (isMode_any _ _).mono ?_
      rintro e w1 ⟨rfl, rfl⟩
      rw [hm]
      go_upto_region 3 with fail
      go_quiet (first | (go_at_call 44; refine Calls.quiet_of_same (HW _)))
      go_wp2
      go_ret
      exact ⟨ret_bool HO.out.symm, (by repeat (first | with_reducible exact Below.refl _ _ | with_reducible refine Below.setCell ?_ (by first | omega | (simp; done) | (simp; omega)) _ | with_reducible refine bDrewN ?_ _ | with_reducible refine Below.drew ?_ | with_reducible refine Below.alloc ?_ (by first | omega | (simp; done) | (simp; omega)) _))⟩
    · have HO : Hid (stnB n V a t = inB 0 (V (a.toNat * 5 + 2) - 1) t) := stn_on hm hi
      obtain ⟨a0, a1⟩ := inB_yes hi
      obtain ⟨k, rfl⟩ : ∃ k : Nat, a = (k : Int) := ⟨a.toNat, by omega⟩
      rw [Int.toNat_natCast] at HO
      obtain ⟨-, -, ⟨l0, l1⟩, -, -⟩ := pln_step (hj k (by omega))
      have kn : (k : Int) < (n : Int) := by omega
      obtain ⟨g, o, rfl, hg, c2⟩ := HR.out (k * 5 + 2) (by omega)
      have d2 : w.cell? ⟨g, o + k * 5 + 2, none⟩ = some (.int .i64 (V (k * 5 + 2))) := c2
      clear c2 hj
      have hmx : inB (-3) (-1) (k : Int) = false := hm
      have HW : ∀ w, Calls Try.prog 44 #[.int .i64 (k : Int), .int .i64 0, .int .i64 ((n : Int) - 1)] w fun e w' => e = .returned (.bool true) ∧ w' = w := fun w => within_yes _ 0 _ w a0 a1
      obtain ⟨m1, hm1⟩ : ∃ m1, (n : Int) - 1 = m1 := ⟨_, rfl⟩
      obtain ⟨L1, hL1⟩ : ∃ L1, V (k * 5 + 2) - 1 = L1 := ⟨_, rfl⟩
      rw [hm1] at HW
      rw [hL1] at HO
      have HX : ∀ w, Calls Try.prog 44 #[.int .i64 t, .int .i64 0, .int .i64 L1] w fun e w' => e = .returned (.bool (inB 0 L1 t)) ∧ w' = w := fun w => within_is t 0 _ w
      clear hi
      go_enter Try.func36, Try.ntmps36
      go_wp2_with fail
      refine (isMode_any _ _).mono ?_
      rintro e w1 ⟨rfl, rfl⟩
      rw [hm]
      go_upto_region 3 with fail
      go_quiet (first | (go_at_call_of 44 (Value.int IntKind.i64 m1); refine Calls.quiet_of_same (HW _)) | (go_at_call_of 44 (Value.int IntKind.i64 L1); refine Calls.quiet_of_same (HX _)))
      go_wp2
      go_ret
      exact ⟨ret_bool HO.out.symm, (by repeat (first | with_reducible exact Below.refl _ _ | with_reducible refine Below.setCell ?_ (by first | omega | (simp; done) | (simp; omega)) _ | with_reducible refine bDrewN ?_ _ | with_reducible refine Below.drew ?_ | with_reducible refine Below.alloc ?_ (by first | omega | (simp; done) | (simp; omega)) _))⟩
  · have HO : Hid (stnB n V a t = decide (t = 0)) := stn_mod hm
    have hmx : inB (-3) (-1) a = true := hm
    go_enter Try.func36, Try.ntmps36
    go_wp2_with fail
    refine (isMode_any _ _).mono ?_
    rintro e w1 ⟨rfl, rfl⟩
    rw [hm]
    go_wp2
    go_ret
    exact ⟨ret_bool (by rw [HO.out, Bool.beq_eq_decide_eq]), (by repeat (first | with_reducible exact Below.refl _ _ | with_reducible refine Below.setCell ?_ (by first | omega | (simp; done) | (simp; omega)) _ | with_reducible refine bDrewN ?_ _ | with_reducible refine Below.drew ?_ | with_reducible refine Below.alloc ?_ (by first | omega | (simp; done) | (simp; omega)) _))⟩
set_option maxHeartbeats 800000 in
theorem tickRight_any (S : Int) (H : Bool) (w : World) : Calls Try.prog 37 #[.agg #[.int .i64 S, .bool H]] w fun e w' => e = .returned (.bool (inB 0 65535 S)) ∧ Below w.heap.size w w' := by
  go_enter Try.func37, Try.ntmps37
  go_wp2_with fail
  refine (within_is _ _ _ _).mono ?_
  rintro e w1 ⟨rfl, rfl⟩
  go_wp2
  go_ret
  exact ⟨rfl, (by repeat (first | with_reducible exact Below.refl _ _ | with_reducible refine Below.setCell ?_ (by first | omega | (simp; done) | (simp; omega)) _ | with_reducible refine bDrewN ?_ _ | with_reducible refine Below.drew ?_ | with_reducible refine Below.alloc ?_ (by first | omega | (simp; done) | (simp; omega)) _))⟩
set_option maxHeartbeats 800000 in
theorem shows_any (S : Int) (H : Bool) (u : Int) (w : World) (u0 : 0 ≤ u) (u1 : u ≤ 15) (s0 : 0 ≤ S) (s1 : S ≤ 65535) : Calls Try.prog 46 #[.agg #[.int .i64 S, .bool H], .int .i64 u] w fun e w' => e = .returned (.bool (shB S u)) ∧ w' = w.alloc (.cells #[.int .i64 S, .bool H] 37) := by
  go_enter Try.func46, Try.ntmps46
  go_wp2
  go_ret
  exact ⟨rfl, rfl⟩
set_option maxRecDepth 20000 in
set_option maxHeartbeats 4000000 in
theorem behind_any (s : Option Addr) (n c : Nat) (V : Nat → Int) (a t S : Int) (H : Bool) (w : World) (hp : planB n V = true) (hs : stnB n V a t = true) (s0 : 0 ≤ S) (s1 : S ≤ 65535) (HR : Hid (RowI w s (n * 5) V)) :
    Calls Try.prog 38 #[.agg #[.int .i64 a, .int .i64 t], .slice s n c, .agg #[.int .i64 S, .bool H]] w fun e w' => e = .returned (.agg #[.int .i64 (nxtV V a t S H).1, .int .i64 (nxtV V a t S H).2]) ∧ Below w.heap.size w w' := by
  obtain ⟨n1, n40, hj⟩ := plan_yes hp
  clear hp
  have n40' : (n : Int) ≤ 40 := by omega
  cases hm : modB a
  case true =>
    have HO : Hid (nxtV V a t S H = (a, t)) := nxt_mod hm
    go_enter Try.func38, Try.ntmps38
    go_wp2_with fail
    refine (isMode_any _ _).mono ?_
    rintro e w1 ⟨rfl, rfl⟩
    rw [hm]
    go_wp2
    exact bodyPost_ret (v := .agg #[.int .i64 a, .int .i64 t]) (by simp [results, Try.results38, go_sem]) rfl ⟨by rw [HO.out], (by repeat (first | with_reducible exact Below.refl _ _ | with_reducible refine Below.setCell ?_ (by first | omega | (simp; done) | (simp; omega)) _ | with_reducible refine bDrewN ?_ _ | with_reducible refine Below.drew ?_ | with_reducible refine Below.alloc ?_ (by first | omega | (simp; done) | (simp; omega)) _))⟩
  have hi : inB 0 ((n : Int) - 1) a = true := by
    cases q : inB 0 ((n : Int) - 1) a
    · rw [stn_off hm q] at hs; cases hs
    · rfl
  have ht := inB_yes (stn_on hm hi ▸ hs)
  obtain ⟨a0, a1⟩ := inB_yes hi
  obtain ⟨k, rfl⟩ : ∃ k : Nat, a = (k : Int) := ⟨a.toNat, by omega⟩
  rw [Int.toNat_natCast] at ht
  obtain ⟨-, ⟨u0, u1⟩, ⟨l0, l1⟩, -, -⟩ := pln_step (hj k (by omega))
  obtain ⟨t0, t1⟩ := ht
  have kn : (k : Int) < (n : Int) := by omega
  obtain ⟨g, o, rfl, hg, c0⟩ := HR.out (k * 5) (by omega)
  obtain ⟨g', o', e', hg1, c1⟩ := HR.out (k * 5 + 1) (by omega)
  cases e'
  obtain ⟨g', o', e', hg2, c2⟩ := HR.out (k * 5 + 2) (by omega)
  cases e'
  obtain ⟨g', o', e', hg3, c3⟩ := HR.out (k * 5 + 3) (by omega)
  cases e'
  obtain ⟨g', o', e', hg4, c4⟩ := HR.out (k * 5 + 4) (by omega)
  cases e'
  have d0 : w.cell? ⟨g, o + k * 5, none⟩ = some (.int .i64 (V (k * 5))) := c0
  have d1 : w.cell? ⟨g, o + k * 5 + 1, none⟩ = some (.int .i64 (V (k * 5 + 1))) := c1
  have d2 : w.cell? ⟨g, o + k * 5 + 2, none⟩ = some (.int .i64 (V (k * 5 + 2))) := c2
  have d3 : w.cell? ⟨g, o + k * 5 + 3, none⟩ = some (.int .i64 (V (k * 5 + 3))) := c3
  have d4 : w.cell? ⟨g, o + k * 5 + 4, none⟩ = some (.int .i64 (V (k * 5 + 4))) := c4
  clear c0 c1 c2 c3 c4 hg1 hg2 hg3 hg4
  clear hj hs hi a0 a1
  go_enter Try.func38, Try.ntmps38
  go_upto_region 1 with fail
  obtain ⟨wd, hwd⟩ : ∃ wd, wd = ((w.alloc (.cells #[.int .i64 (k : Int), .int .i64 t] 33)).alloc (.cells #[.int .i64 S, .bool H] 37)).alloc (.cells #[.int .i64 0, .int .i64 0] 33) := ⟨_, rfl⟩
  rw [← hwd]
  have B0 : Below w.heap.size w wd := by rw [hwd]; exact (by repeat (first | with_reducible exact Below.refl _ _ | with_reducible refine Below.setCell ?_ (by first | omega | (simp; done) | (simp; omega)) _ | with_reducible refine bDrewN ?_ _ | with_reducible refine Below.drew ?_ | with_reducible refine Below.alloc ?_ (by first | omega | (simp; done) | (simp; omega)) _))
  have p0 : wd.cell? ⟨w.heap.size, 0, none⟩ = some (.int .i64 (k : Int)) := by rw [hwd]; simp [go_sem]
  have p1 : wd.cell? ⟨w.heap.size, 1, none⟩ = some (.int .i64 t) := by rw [hwd]; simp [go_sem]
  have q0 : wd.cell? ⟨w.heap.size + 1, 0, none⟩ = some (.int .i64 S) := by rw [hwd]; simp [go_sem]
  have q1 : wd.cell? ⟨w.heap.size + 1, 1, none⟩ = some (.bool H) := by rw [hwd]; simp [go_sem]
  have r0 : wd.cell? ⟨w.heap.size + 1 + 1, 0, none⟩ = some (.int .i64 0) := by rw [hwd]; simp [go_sem]
  have r1 : wd.cell? ⟨w.heap.size + 1 + 1, 1, none⟩ = some (.int .i64 0) := by rw [hwd]; simp [go_sem]
  have f0 : ∀ j, wd.frozen? ⟨w.heap.size + 1 + 1, j, none⟩ = false := by intro j; rw [hwd]; simp [go_sem]
  have z0 : w.heap.size + 1 + 1 < wd.heap.size := by rw [hwd]; simp
  have z1 : w.heap.size + 1 < wd.heap.size := by omega
  have z2 : w.heap.size < wd.heap.size := by omega
  have zg : g < wd.heap.size := by omega
  replace d0 := (B0.cell (p := ⟨g, o + k * 5, none⟩) hg).trans d0
  replace d1 := (B0.cell (p := ⟨g, o + k * 5 + 1, none⟩) hg).trans d1
  replace d2 := (B0.cell (p := ⟨g, o + k * 5 + 2, none⟩) hg).trans d2
  replace d3 := (B0.cell (p := ⟨g, o + k * 5 + 3, none⟩) hg).trans d3
  replace d4 := (B0.cell (p := ⟨g, o + k * 5 + 4, none⟩) hg).trans d4
  clear hwd
  go_wp2_with fail
  refine (isMode_any _ _).mono ?_
  rintro e w1 ⟨rfl, rfl⟩
  rw [hm]
  go_wp2_with fail
  refine (shows_any _ _ _ _ u0 u1 s0 s1).mono ?_
  rintro e w1 ⟨rfl, rfl⟩
  cases hh : shB S (V (k * 5 + 1))
  case true =>
    have HO : Hid (nxtV V k t S H = (V (k * 5 + 3), 0)) := nxt_show hh
    go_wp2
    exact bodyPost_ret (v := .agg #[.int .i64 (V (k * 5 + 3)), .int .i64 0]) (by simp [results, Try.results38, go_sem, r0, r1, z0, z1, z2]) rfl ⟨by rw [HO.out], (by repeat (first | with_reducible exact Below.refl _ _ | with_reducible exact B0 | with_reducible refine Below.setCell ?_ (by first | omega | (simp; done) | (simp; omega)) _ | with_reducible refine bDrewN ?_ _ | with_reducible refine Below.drew ?_ | with_reducible refine Below.alloc ?_ (by first | omega | (simp; done) | (simp; omega)) _))⟩
  cases H
  case true =>
    have HO : Hid (nxtV V k t S true = ((k : Int), t)) := nxt_hold hh
    go_wp2
    exact bodyPost_ret (v := .agg #[.int .i64 (k : Int), .int .i64 t]) (by simp [results, Try.results38, go_sem, r0, r1, z0, z1, z2]) rfl ⟨by rw [HO.out], (by repeat (first | with_reducible exact Below.refl _ _ | with_reducible exact B0 | with_reducible refine Below.setCell ?_ (by first | omega | (simp; done) | (simp; omega)) _ | with_reducible refine bDrewN ?_ _ | with_reducible refine Below.drew ?_ | with_reducible refine Below.alloc ?_ (by first | omega | (simp; done) | (simp; omega)) _))⟩
  by_cases q : t + 1 = V (k * 5 + 2)
  · have HO : Hid (nxtV V k t S false = (V (k * 5 + 4), 0)) := nxt_late hh q
    have q' : (t + 1 == V (k * 5 + 2)) = true := by simpa using q
    clear q
    go_wp2
    exact bodyPost_ret (v := .agg #[.int .i64 (V (k * 5 + 4)), .int .i64 0]) (by simp [results, Try.results38, go_sem, r0, r1, z0, z1, z2]) rfl ⟨by rw [HO.out], (by repeat (first | with_reducible exact Below.refl _ _ | with_reducible exact B0 | with_reducible refine Below.setCell ?_ (by first | omega | (simp; done) | (simp; omega)) _ | with_reducible refine bDrewN ?_ _ | with_reducible refine Below.drew ?_ | with_reducible refine Below.alloc ?_ (by first | omega | (simp; done) | (simp; omega)) _))⟩
  · have HO : Hid (nxtV V k t S false = ((k : Int), t + 1)) := nxt_wait hh q
    have q' : (t + 1 == V (k * 5 + 2)) = false := by simpa using q
    go_wp2
    exact bodyPost_ret (v := .agg #[.int .i64 (k : Int), .int .i64 (t + 1)]) (by simp [results, Try.results38, go_sem, r0, r1, z0, z1, z2]) rfl ⟨by rw [HO.out], (by repeat (first | with_reducible exact Below.refl _ _ | with_reducible exact B0 | with_reducible refine Below.setCell ?_ (by first | omega | (simp; done) | (simp; omega)) _ | with_reducible refine bDrewN ?_ _ | with_reducible refine Below.drew ?_ | with_reducible refine Below.alloc ?_ (by first | omega | (simp; done) | (simp; omega)) _))⟩
set_option maxRecDepth 20000 in
set_option maxHeartbeats 8000000 in
theorem specSeqStep_any (s : Option Addr) (n c : Nat) (V : Nat → Int) (a t S : Int) (H : Bool) (w : World) (hn : (n : Int) ≤ 1048576) (HR : Hid (RowI w s (n * 5) V)) :
    Calls Try.prog 12 #[.slice s n c, .agg #[.int .i64 a, .int .i64 t], .agg #[.int .i64 S, .bool H]] w fun e w' => e = .returned (.tuple #[.agg #[.int .i64 (seqV n V a t S H).1, .int .i64 (seqV n V a t S H).2], .bool (seqB n V a t S)]) ∧ Below w.heap.size w w' := by
  go_enter Try.func12, Try.ntmps12
  go_upto_region 1 with fail
  obtain ⟨wd, hwd⟩ : ∃ wd, wd = ((w.alloc (.cells #[.int .i64 a, .int .i64 t] 33)).alloc (.cells #[.int .i64 S, .bool H] 37)).alloc (.cells #[.int .i64 0, .int .i64 0] 33) := ⟨_, rfl⟩
  rw [← hwd]
  have p0 : wd.cell? ⟨w.heap.size, 0, none⟩ = some (.int .i64 a) := by rw [hwd]; simp [go_sem]
  have p1 : wd.cell? ⟨w.heap.size, 1, none⟩ = some (.int .i64 t) := by rw [hwd]; simp [go_sem]
  have q0 : wd.cell? ⟨w.heap.size + 1, 0, none⟩ = some (.int .i64 S) := by rw [hwd]; simp [go_sem]
  have q1 : wd.cell? ⟨w.heap.size + 1, 1, none⟩ = some (.bool H) := by rw [hwd]; simp [go_sem]
  have r0 : wd.cell? ⟨w.heap.size + 1 + 1, 0, none⟩ = some (.int .i64 0) := by rw [hwd]; simp [go_sem]
  have r1 : wd.cell? ⟨w.heap.size + 1 + 1, 1, none⟩ = some (.int .i64 0) := by rw [hwd]; simp [go_sem]
  have f0 : ∀ j, wd.frozen? ⟨w.heap.size + 1 + 1, j, none⟩ = false := by intro j; rw [hwd]; simp [go_sem]
  have z0 : w.heap.size + 1 + 1 < wd.heap.size := by rw [hwd]; simp
  have z1 : w.heap.size + 1 < wd.heap.size := by omega
  have z2 : w.heap.size < wd.heap.size := by omega
  have B0 : Below w.heap.size w wd := by rw [hwd]; exact (by repeat (first | with_reducible exact Below.refl _ _ | with_reducible refine Below.setCell ?_ (by first | omega | (simp; done) | (simp; omega)) _ | with_reducible refine bDrewN ?_ _ | with_reducible refine Below.drew ?_ | with_reducible refine Below.alloc ?_ (by first | omega | (simp; done) | (simp; omega)) _))
  have HR0 : Hid (RowI wd s (n * 5) V) := HR.out.below B0
  clear hwd
  go_wp2_with fail
  refine (specPlanOk_any s n c V _ hn HR0).mono ?_
  rintro e w1 ⟨rfl, h1⟩
  replace p0 := (h1.cell (p := ⟨w.heap.size, 0, none⟩) (show w.heap.size < wd.heap.size from by omega)).trans p0
  replace p1 := (h1.cell (p := ⟨w.heap.size, 1, none⟩) (show w.heap.size < wd.heap.size from by omega)).trans p1
  replace q0 := (h1.cell (p := ⟨w.heap.size + 1, 0, none⟩) (show w.heap.size + 1 < wd.heap.size from by omega)).trans q0
  replace q1 := (h1.cell (p := ⟨w.heap.size + 1, 1, none⟩) (show w.heap.size + 1 < wd.heap.size from by omega)).trans q1
  replace r0 := (h1.cell (p := ⟨w.heap.size + 1 + 1, 0, none⟩) (show w.heap.size + 1 + 1 < wd.heap.size from by omega)).trans r0
  replace r1 := (h1.cell (p := ⟨w.heap.size + 1 + 1, 1, none⟩) (show w.heap.size + 1 + 1 < wd.heap.size from by omega)).trans r1
  replace f0 : ∀ j, w1.frozen? ⟨w.heap.size + 1 + 1, j, none⟩ = false := fun j => (h1.frozen (p := ⟨w.heap.size + 1 + 1, j, none⟩) z0).trans (f0 j)
  replace HR0 : Hid (RowI w1 s (n * 5) V) := HR0.out.below h1
  have B1 : Below w.heap.size w w1 := B0.trans (h1.mono (by have := B0.size; omega))
  replace z0 : w.heap.size + 1 + 1 < w1.heap.size := Nat.lt_of_lt_of_le z0 h1.size
  replace z1 : w.heap.size + 1 < w1.heap.size := by omega
  replace z2 : w.heap.size < w1.heap.size := by omega
  clear B0 h1
  have B0 := B1
  cases k0 : planB n V
  · have HQ : Hid (seqB n V a t S = false) := by show _ = _; unfold seqB; rw [k0]; rfl
    have HO : Hid (seqV n V a t S H = (0, 0)) := by show _ = _; unfold seqV; rw [if_neg (by rw [HQ.out]; simp)]
    go_wp2
    exact bodyPost_ret (v := .tuple #[.agg #[.int .i64 0, .int .i64 0], .bool false]) (by simp [results, Try.results12, go_sem, r0, r1, z0, z1, z2]) rfl ⟨by rw [HO.out, HQ.out], (by repeat (first | with_reducible exact Below.refl _ _ | with_reducible exact B1 | with_reducible refine Below.setCell ?_ (by first | omega | (simp; done) | (simp; omega)) _ | with_reducible refine bDrewN ?_ _ | with_reducible refine Below.drew ?_ | with_reducible refine Below.alloc ?_ (by first | omega | (simp; done) | (simp; omega)) _))⟩
  clear B1
  go_wp2_with fail
  refine (specStand_any s n c V a t _ k0 HR0).mono ?_
  rintro e w2 ⟨rfl, h2⟩
  replace p0 := (h2.cell (p := ⟨w.heap.size, 0, none⟩) (show w.heap.size < w1.heap.size from by omega)).trans p0
  replace p1 := (h2.cell (p := ⟨w.heap.size, 1, none⟩) (show w.heap.size < w1.heap.size from by omega)).trans p1
  replace q0 := (h2.cell (p := ⟨w.heap.size + 1, 0, none⟩) (show w.heap.size + 1 < w1.heap.size from by omega)).trans q0
  replace q1 := (h2.cell (p := ⟨w.heap.size + 1, 1, none⟩) (show w.heap.size + 1 < w1.heap.size from by omega)).trans q1
  replace r0 := (h2.cell (p := ⟨w.heap.size + 1 + 1, 0, none⟩) (show w.heap.size + 1 + 1 < w1.heap.size from by omega)).trans r0
  replace r1 := (h2.cell (p := ⟨w.heap.size + 1 + 1, 1, none⟩) (show w.heap.size + 1 + 1 < w1.heap.size from by omega)).trans r1
  replace f0 : ∀ j, w2.frozen? ⟨w.heap.size + 1 + 1, j, none⟩ = false := fun j => (h2.frozen (p := ⟨w.heap.size + 1 + 1, j, none⟩) z0).trans (f0 j)
  replace HR0 : Hid (RowI w2 s (n * 5) V) := HR0.out.below h2
  have B1 : Below w.heap.size w w2 := B0.trans (h2.mono (by have := B0.size; omega))
  replace z0 : w.heap.size + 1 + 1 < w2.heap.size := Nat.lt_of_lt_of_le z0 h2.size
  replace z1 : w.heap.size + 1 < w2.heap.size := by omega
  replace z2 : w.heap.size < w2.heap.size := by omega
  clear B0 h2
  have B0 := B1
  cases k1 : stnB n V a t
  · have HQ : Hid (seqB n V a t S = false) := by show _ = _; unfold seqB; rw [k0, k1]; rfl
    have HO : Hid (seqV n V a t S H = (0, 0)) := by show _ = _; unfold seqV; rw [if_neg (by rw [HQ.out]; simp)]
    go_wp2
    exact bodyPost_ret (v := .tuple #[.agg #[.int .i64 0, .int .i64 0], .bool false]) (by simp [results, Try.results12, go_sem, r0, r1, z0, z1, z2]) rfl ⟨by rw [HO.out, HQ.out], (by repeat (first | with_reducible exact Below.refl _ _ | with_reducible exact B1 | with_reducible refine Below.setCell ?_ (by first | omega | (simp; done) | (simp; omega)) _ | with_reducible refine bDrewN ?_ _ | with_reducible refine Below.drew ?_ | with_reducible refine Below.alloc ?_ (by first | omega | (simp; done) | (simp; omega)) _))⟩
  go_wp2_with fail
  refine (l1In_is _ _ _ _).mono ?_
  rintro e w3 ⟨rfl, rfl⟩
  cases k2 : inB 0 65535 S
  · have HQ : Hid (seqB n V a t S = false) := by show _ = _; unfold seqB; rw [k0, k1, k2]; rfl
    have HO : Hid (seqV n V a t S H = (0, 0)) := by show _ = _; unfold seqV; rw [if_neg (by rw [HQ.out]; simp)]
    go_wp2
    exact bodyPost_ret (v := .tuple #[.agg #[.int .i64 0, .int .i64 0], .bool false]) (by simp [results, Try.results12, go_sem, r0, r1, z0, z1, z2]) rfl ⟨by rw [HO.out, HQ.out], (by repeat (first | with_reducible exact Below.refl _ _ | with_reducible exact B1 | with_reducible refine Below.setCell ?_ (by first | omega | (simp; done) | (simp; omega)) _ | with_reducible refine bDrewN ?_ _ | with_reducible refine Below.drew ?_ | with_reducible refine Below.alloc ?_ (by first | omega | (simp; done) | (simp; omega)) _))⟩
  have HQ : Hid (seqB n V a t S = true) := by show _ = _; unfold seqB; rw [k0, k1, k2]; rfl
  have HV : Hid (seqV n V a t S H = nxtV V a t S H) := by show _ = _; unfold seqV; rw [if_pos HQ.out]
  obtain ⟨s0, s1⟩ := inB_yes k2
  clear k2
  obtain ⟨n1, n40, hj⟩ := plan_yes k0
  cases hm : modB a
  case true =>
    have HO : Hid (seqV n V a t S H = (a, t)) := HV.out.trans (nxt_mod hm)
    have am := (mod_yes hm).2
    have b0 : a < 0 := by omega
    clear hm k0 k1 am hj
    go_wp2
    exact bodyPost_ret (v := .tuple #[.agg #[.int .i64 a, .int .i64 t], .bool true]) (by simp [results, Try.results12, go_sem, r0, r1, z0, z1, z2]) rfl ⟨by rw [HO.out, HQ.out], (by repeat (first | with_reducible exact Below.refl _ _ | with_reducible exact B1 | with_reducible refine Below.setCell ?_ (by first | omega | (simp; done) | (simp; omega)) _ | with_reducible refine bDrewN ?_ _ | with_reducible refine Below.drew ?_ | with_reducible refine Below.alloc ?_ (by first | omega | (simp; done) | (simp; omega)) _))⟩
  have hi : inB 0 ((n : Int) - 1) a = true := by
    cases q : inB 0 ((n : Int) - 1) a
    · rw [stn_off hm q] at k1; cases k1
    · rfl
  have ht := inB_yes (stn_on hm hi ▸ k1)
  obtain ⟨a0, a1⟩ := inB_yes hi
  obtain ⟨k, rfl⟩ : ∃ k : Nat, a = (k : Int) := ⟨a.toNat, by omega⟩
  rw [Int.toNat_natCast] at ht
  obtain ⟨-, ⟨u0, u1⟩, ⟨l0, l1⟩, -, -⟩ := pln_step (hj k (by omega))
  obtain ⟨t0, t1⟩ := ht
  have kn : (k : Int) < (n : Int) := by omega
  obtain ⟨g, o, rfl, hg, c0⟩ := HR0.out (k * 5) (by omega)
  obtain ⟨g', o', e', hg1, c1⟩ := HR0.out (k * 5 + 1) (by omega)
  cases e'
  obtain ⟨g', o', e', hg2, c2⟩ := HR0.out (k * 5 + 2) (by omega)
  cases e'
  obtain ⟨g', o', e', hg3, c3⟩ := HR0.out (k * 5 + 3) (by omega)
  cases e'
  obtain ⟨g', o', e', hg4, c4⟩ := HR0.out (k * 5 + 4) (by omega)
  cases e'
  have d0 : w3.cell? ⟨g, o + k * 5, none⟩ = some (.int .i64 (V (k * 5))) := c0
  have d1 : w3.cell? ⟨g, o + k * 5 + 1, none⟩ = some (.int .i64 (V (k * 5 + 1))) := c1
  have d2 : w3.cell? ⟨g, o + k * 5 + 2, none⟩ = some (.int .i64 (V (k * 5 + 2))) := c2
  have d3 : w3.cell? ⟨g, o + k * 5 + 3, none⟩ = some (.int .i64 (V (k * 5 + 3))) := c3
  have d4 : w3.cell? ⟨g, o + k * 5 + 4, none⟩ = some (.int .i64 (V (k * 5 + 4))) := c4
  clear c0 c1 c2 c3 c4 hg1 hg2 hg3 hg4
  have n40' : (n : Int) ≤ 40 := by omega
  clear hj k1 k0 hi a0 a1 hm
  cases hh : shB S (V (k * 5 + 1))
  case true =>
    have hh' : (bits BinOp.and IntKind.i64 (S / 2 ^ (V (k * 5 + 1)).toNat) 1 == 1) = true := hh
    have HO : Hid (seqV n V k t S H = (V (k * 5 + 3), 0)) := HV.out.trans (nxt_show hh)
    clear hh
    go_wp2
    exact bodyPost_ret (v := .tuple #[.agg #[.int .i64 (V (k * 5 + 3)), .int .i64 0], .bool true]) (by simp [results, Try.results12, go_sem, r0, r1, z0, z1, z2]) rfl ⟨by rw [HO.out, HQ.out], (by repeat (first | with_reducible exact Below.refl _ _ | with_reducible exact B1 | with_reducible refine Below.setCell ?_ (by first | omega | (simp; done) | (simp; omega)) _ | with_reducible refine bDrewN ?_ _ | with_reducible refine Below.drew ?_ | with_reducible refine Below.alloc ?_ (by first | omega | (simp; done) | (simp; omega)) _))⟩
  have hh' : (bits BinOp.and IntKind.i64 (S / 2 ^ (V (k * 5 + 1)).toNat) 1 == 1) = false := hh
  cases H
  case true =>
    have HO : Hid (seqV n V k t S true = ((k : Int), t)) := HV.out.trans (nxt_hold hh)
    go_wp2
    exact bodyPost_ret (v := .tuple #[.agg #[.int .i64 (k : Int), .int .i64 t], .bool true]) (by simp [results, Try.results12, go_sem, r0, r1, z0, z1, z2]) rfl ⟨by rw [HO.out, HQ.out], (by repeat (first | with_reducible exact Below.refl _ _ | with_reducible exact B1 | with_reducible refine Below.setCell ?_ (by first | omega | (simp; done) | (simp; omega)) _ | with_reducible refine bDrewN ?_ _ | with_reducible refine Below.drew ?_ | with_reducible refine Below.alloc ?_ (by first | omega | (simp; done) | (simp; omega)) _))⟩
  by_cases q : t + 1 = V (k * 5 + 2)
  · have HO : Hid (seqV n V k t S false = (V (k * 5 + 4), 0)) := HV.out.trans (nxt_late hh q)
    have q' : (t + 1 == V (k * 5 + 2)) = true := by simpa using q
    clear q
    go_wp2
    exact bodyPost_ret (v := .tuple #[.agg #[.int .i64 (V (k * 5 + 4)), .int .i64 0], .bool true]) (by simp [results, Try.results12, go_sem, r0, r1, z0, z1, z2]) rfl ⟨by rw [HO.out, HQ.out], (by repeat (first | with_reducible exact Below.refl _ _ | with_reducible exact B1 | with_reducible refine Below.setCell ?_ (by first | omega | (simp; done) | (simp; omega)) _ | with_reducible refine bDrewN ?_ _ | with_reducible refine Below.drew ?_ | with_reducible refine Below.alloc ?_ (by first | omega | (simp; done) | (simp; omega)) _))⟩
  · have HO : Hid (seqV n V k t S false = ((k : Int), t + 1)) := HV.out.trans (nxt_wait hh q)
    have q' : (t + 1 == V (k * 5 + 2)) = false := by simpa using q
    go_wp2
    exact bodyPost_ret (v := .tuple #[.agg #[.int .i64 (k : Int), .int .i64 (t + 1)], .bool true]) (by simp [results, Try.results12, go_sem, r0, r1, z0, z1, z2]) rfl ⟨by rw [HO.out, HQ.out], (by repeat (first | with_reducible exact Below.refl _ _ | with_reducible exact B1 | with_reducible refine Below.setCell ?_ (by first | omega | (simp; done) | (simp; omega)) _ | with_reducible refine bDrewN ?_ _ | with_reducible refine Below.drew ?_ | with_reducible refine Below.alloc ?_ (by first | omega | (simp; done) | (simp; omega)) _))⟩
set_option maxRecDepth 20000 in
set_option maxHeartbeats 8000000 in
theorem implSeqStep_any (s : Option Addr) (n c : Nat) (V : Nat → Int) (a t S : Int) (H : Bool) (w : World) (hn : (n : Int) ≤ 1048576) (HR : Hid (RowI w s (n * 5) V)) :
    Calls Try.prog 15 #[.slice s n c, .agg #[.int .i64 a, .int .i64 t], .agg #[.int .i64 S, .bool H]] w fun e w' => e = .returned (.tuple #[.agg #[.int .i64 (seqV n V a t S H).1, .int .i64 (seqV n V a t S H).2], .bool (seqB n V a t S)]) ∧ Below w.heap.size w w' := by
  go_enter Try.func15, Try.ntmps15
  go_upto_region 1 with fail
  obtain ⟨wd, hwd⟩ : ∃ wd, wd = ((w.alloc (.cells #[.int .i64 a, .int .i64 t] 33)).alloc (.cells #[.int .i64 S, .bool H] 37)).alloc (.cells #[.int .i64 0, .int .i64 0] 33) := ⟨_, rfl⟩
  rw [← hwd]
  have p0 : wd.cell? ⟨w.heap.size, 0, none⟩ = some (.int .i64 a) := by rw [hwd]; simp [go_sem]
  have p1 : wd.cell? ⟨w.heap.size, 1, none⟩ = some (.int .i64 t) := by rw [hwd]; simp [go_sem]
  have q0 : wd.cell? ⟨w.heap.size + 1, 0, none⟩ = some (.int .i64 S) := by rw [hwd]; simp [go_sem]
  have q1 : wd.cell? ⟨w.heap.size + 1, 1, none⟩ = some (.bool H) := by rw [hwd]; simp [go_sem]
  have r0 : wd.cell? ⟨w.heap.size + 1 + 1, 0, none⟩ = some (.int .i64 0) := by rw [hwd]; simp [go_sem]
  have r1 : wd.cell? ⟨w.heap.size + 1 + 1, 1, none⟩ = some (.int .i64 0) := by rw [hwd]; simp [go_sem]
  have f0 : ∀ j, wd.frozen? ⟨w.heap.size + 1 + 1, j, none⟩ = false := by intro j; rw [hwd]; simp [go_sem]
  have z0 : w.heap.size + 1 + 1 < wd.heap.size := by rw [hwd]; simp
  have z1 : w.heap.size + 1 < wd.heap.size := by omega
  have z2 : w.heap.size < wd.heap.size := by omega
  have B0 : Below w.heap.size w wd := by rw [hwd]; exact (by repeat (first | with_reducible exact Below.refl _ _ | with_reducible refine Below.setCell ?_ (by first | omega | (simp; done) | (simp; omega)) _ | with_reducible refine bDrewN ?_ _ | with_reducible refine Below.drew ?_ | with_reducible refine Below.alloc ?_ (by first | omega | (simp; done) | (simp; omega)) _))
  have HR0 : Hid (RowI wd s (n * 5) V) := HR.out.below B0
  clear hwd
  go_wp2_with fail
  refine (implPlanOk_any s n c V _ hn HR0).mono ?_
  rintro e w1 ⟨rfl, h1⟩
  replace p0 := (h1.cell (p := ⟨w.heap.size, 0, none⟩) (show w.heap.size < wd.heap.size from by omega)).trans p0
  replace p1 := (h1.cell (p := ⟨w.heap.size, 1, none⟩) (show w.heap.size < wd.heap.size from by omega)).trans p1
  replace q0 := (h1.cell (p := ⟨w.heap.size + 1, 0, none⟩) (show w.heap.size + 1 < wd.heap.size from by omega)).trans q0
  replace q1 := (h1.cell (p := ⟨w.heap.size + 1, 1, none⟩) (show w.heap.size + 1 < wd.heap.size from by omega)).trans q1
  replace r0 := (h1.cell (p := ⟨w.heap.size + 1 + 1, 0, none⟩) (show w.heap.size + 1 + 1 < wd.heap.size from by omega)).trans r0
  replace r1 := (h1.cell (p := ⟨w.heap.size + 1 + 1, 1, none⟩) (show w.heap.size + 1 + 1 < wd.heap.size from by omega)).trans r1
  replace f0 : ∀ j, w1.frozen? ⟨w.heap.size + 1 + 1, j, none⟩ = false := fun j => (h1.frozen (p := ⟨w.heap.size + 1 + 1, j, none⟩) z0).trans (f0 j)
  replace HR0 : Hid (RowI w1 s (n * 5) V) := HR0.out.below h1
  have B1 : Below w.heap.size w w1 := B0.trans (h1.mono (by have := B0.size; omega))
  replace z0 : w.heap.size + 1 + 1 < w1.heap.size := Nat.lt_of_lt_of_le z0 h1.size
  replace z1 : w.heap.size + 1 < w1.heap.size := by omega
  replace z2 : w.heap.size < w1.heap.size := by omega
  clear B0 h1
  have B0 := B1
  cases k0 : planB n V
  · have HQ : Hid (seqB n V a t S = false) := by show _ = _; unfold seqB; rw [k0]; rfl
    have HO : Hid (seqV n V a t S H = (0, 0)) := by show _ = _; unfold seqV; rw [if_neg (by rw [HQ.out]; simp)]
    go_wp2
    exact bodyPost_ret (v := .tuple #[.agg #[.int .i64 0, .int .i64 0], .bool false]) (by simp [results, Try.results15, go_sem, r0, r1, z0, z1, z2]) rfl ⟨by rw [HO.out, HQ.out], (by repeat (first | with_reducible exact Below.refl _ _ | with_reducible exact B1 | with_reducible refine Below.setCell ?_ (by first | omega | (simp; done) | (simp; omega)) _ | with_reducible refine bDrewN ?_ _ | with_reducible refine Below.drew ?_ | with_reducible refine Below.alloc ?_ (by first | omega | (simp; done) | (simp; omega)) _))⟩
  clear B1
  go_wp2_with fail
  refine (implStand_any s n c V a t _ k0 HR0).mono ?_
  rintro e w2 ⟨rfl, h2⟩
  replace p0 := (h2.cell (p := ⟨w.heap.size, 0, none⟩) (show w.heap.size < w1.heap.size from by omega)).trans p0
  replace p1 := (h2.cell (p := ⟨w.heap.size, 1, none⟩) (show w.heap.size < w1.heap.size from by omega)).trans p1
  replace q0 := (h2.cell (p := ⟨w.heap.size + 1, 0, none⟩) (show w.heap.size + 1 < w1.heap.size from by omega)).trans q0
  replace q1 := (h2.cell (p := ⟨w.heap.size + 1, 1, none⟩) (show w.heap.size + 1 < w1.heap.size from by omega)).trans q1
  replace r0 := (h2.cell (p := ⟨w.heap.size + 1 + 1, 0, none⟩) (show w.heap.size + 1 + 1 < w1.heap.size from by omega)).trans r0
  replace r1 := (h2.cell (p := ⟨w.heap.size + 1 + 1, 1, none⟩) (show w.heap.size + 1 + 1 < w1.heap.size from by omega)).trans r1
  replace f0 : ∀ j, w2.frozen? ⟨w.heap.size + 1 + 1, j, none⟩ = false := fun j => (h2.frozen (p := ⟨w.heap.size + 1 + 1, j, none⟩) z0).trans (f0 j)
  replace HR0 : Hid (RowI w2 s (n * 5) V) := HR0.out.below h2
  have B1 : Below w.heap.size w w2 := B0.trans (h2.mono (by have := B0.size; omega))
  replace z0 : w.heap.size + 1 + 1 < w2.heap.size := Nat.lt_of_lt_of_le z0 h2.size
  replace z1 : w.heap.size + 1 < w2.heap.size := by omega
  replace z2 : w.heap.size < w2.heap.size := by omega
  clear B0 h2
  have B0 := B1
  cases k1 : stnB n V a t
  · have HQ : Hid (seqB n V a t S = false) := by show _ = _; unfold seqB; rw [k0, k1]; rfl
    have HO : Hid (seqV n V a t S H = (0, 0)) := by show _ = _; unfold seqV; rw [if_neg (by rw [HQ.out]; simp)]
    go_wp2
    exact bodyPost_ret (v := .tuple #[.agg #[.int .i64 0, .int .i64 0], .bool false]) (by simp [results, Try.results15, go_sem, r0, r1, z0, z1, z2]) rfl ⟨by rw [HO.out, HQ.out], (by repeat (first | with_reducible exact Below.refl _ _ | with_reducible exact B1 | with_reducible refine Below.setCell ?_ (by first | omega | (simp; done) | (simp; omega)) _ | with_reducible refine bDrewN ?_ _ | with_reducible refine Below.drew ?_ | with_reducible refine Below.alloc ?_ (by first | omega | (simp; done) | (simp; omega)) _))⟩
  go_wp2_with fail
  refine (tickRight_any _ _ _).mono ?_
  rintro e w3 ⟨rfl, h3⟩
  clear B1
  replace p0 := (h3.cell (p := ⟨w.heap.size, 0, none⟩) (show w.heap.size < w2.heap.size from by omega)).trans p0
  replace p1 := (h3.cell (p := ⟨w.heap.size, 1, none⟩) (show w.heap.size < w2.heap.size from by omega)).trans p1
  replace q0 := (h3.cell (p := ⟨w.heap.size + 1, 0, none⟩) (show w.heap.size + 1 < w2.heap.size from by omega)).trans q0
  replace q1 := (h3.cell (p := ⟨w.heap.size + 1, 1, none⟩) (show w.heap.size + 1 < w2.heap.size from by omega)).trans q1
  replace r0 := (h3.cell (p := ⟨w.heap.size + 1 + 1, 0, none⟩) (show w.heap.size + 1 + 1 < w2.heap.size from by omega)).trans r0
  replace r1 := (h3.cell (p := ⟨w.heap.size + 1 + 1, 1, none⟩) (show w.heap.size + 1 + 1 < w2.heap.size from by omega)).trans r1
  replace f0 : ∀ j, w3.frozen? ⟨w.heap.size + 1 + 1, j, none⟩ = false := fun j => (h3.frozen (p := ⟨w.heap.size + 1 + 1, j, none⟩) z0).trans (f0 j)
  replace HR0 : Hid (RowI w3 s (n * 5) V) := HR0.out.below h3
  have B1 : Below w.heap.size w w3 := B0.trans (h3.mono (by have := B0.size; omega))
  replace z0 : w.heap.size + 1 + 1 < w3.heap.size := Nat.lt_of_lt_of_le z0 h3.size
  replace z1 : w.heap.size + 1 < w3.heap.size := by omega
  replace z2 : w.heap.size < w3.heap.size := by omega
  clear B0 h3
  have B0 := B1
  cases k2 : inB 0 65535 S
  · have HQ : Hid (seqB n V a t S = false) := by show _ = _; unfold seqB; rw [k0, k1, k2]; rfl
    have HO : Hid (seqV n V a t S H = (0, 0)) := by show _ = _; unfold seqV; rw [if_neg (by rw [HQ.out]; simp)]
    go_wp2
    exact bodyPost_ret (v := .tuple #[.agg #[.int .i64 0, .int .i64 0], .bool false]) (by simp [results, Try.results15, go_sem, r0, r1, z0, z1, z2]) rfl ⟨by rw [HO.out, HQ.out], (by repeat (first | with_reducible exact Below.refl _ _ | with_reducible exact B1 | with_reducible refine Below.setCell ?_ (by first | omega | (simp; done) | (simp; omega)) _ | with_reducible refine bDrewN ?_ _ | with_reducible refine Below.drew ?_ | with_reducible refine Below.alloc ?_ (by first | omega | (simp; done) | (simp; omega)) _))⟩
  have HQ : Hid (seqB n V a t S = true) := by show _ = _; unfold seqB; rw [k0, k1, k2]; rfl
  have HV : Hid (seqV n V a t S H = nxtV V a t S H) := by show _ = _; unfold seqV; rw [if_pos HQ.out]
  obtain ⟨s0, s1⟩ := inB_yes k2
  clear k2
  go_wp2_with fail
  refine (behind_any s n c V a t S H _ k0 k1 s0 s1 HR0).mono ?_
  rintro e w4 ⟨rfl, h4⟩
  clear B1
  replace p0 := (h4.cell (p := ⟨w.heap.size, 0, none⟩) (show w.heap.size < w3.heap.size from by omega)).trans p0
  replace p1 := (h4.cell (p := ⟨w.heap.size, 1, none⟩) (show w.heap.size < w3.heap.size from by omega)).trans p1
  replace q0 := (h4.cell (p := ⟨w.heap.size + 1, 0, none⟩) (show w.heap.size + 1 < w3.heap.size from by omega)).trans q0
  replace q1 := (h4.cell (p := ⟨w.heap.size + 1, 1, none⟩) (show w.heap.size + 1 < w3.heap.size from by omega)).trans q1
  replace r0 := (h4.cell (p := ⟨w.heap.size + 1 + 1, 0, none⟩) (show w.heap.size + 1 + 1 < w3.heap.size from by omega)).trans r0
  replace r1 := (h4.cell (p := ⟨w.heap.size + 1 + 1, 1, none⟩) (show w.heap.size + 1 + 1 < w3.heap.size from by omega)).trans r1
  replace f0 : ∀ j, w4.frozen? ⟨w.heap.size + 1 + 1, j, none⟩ = false := fun j => (h4.frozen (p := ⟨w.heap.size + 1 + 1, j, none⟩) z0).trans (f0 j)
  replace HR0 : Hid (RowI w4 s (n * 5) V) := HR0.out.below h4
  have B1 : Below w.heap.size w w4 := B0.trans (h4.mono (by have := B0.size; omega))
  replace z0 : w.heap.size + 1 + 1 < w4.heap.size := Nat.lt_of_lt_of_le z0 h4.size
  replace z1 : w.heap.size + 1 < w4.heap.size := by omega
  replace z2 : w.heap.size < w4.heap.size := by omega
  clear B0 h4
  have B0 := B1
  have HO := HV
  go_wp2
  exact bodyPost_ret (v := .tuple #[.agg #[.int .i64 (nxtV V a t S H).1, .int .i64 (nxtV V a t S H).2], .bool true]) (by simp [results, Try.results15, go_sem, r0, r1, z0, z1, z2]) rfl ⟨by rw [HO.out, HQ.out], (by repeat (first | with_reducible exact Below.refl _ _ | with_reducible exact B1 | with_reducible refine Below.setCell ?_ (by first | omega | (simp; done) | (simp; omega)) _ | with_reducible refine bDrewN ?_ _ | with_reducible refine Below.drew ?_ | with_reducible refine Below.alloc ?_ (by first | omega | (simp; done) | (simp; omega)) _))⟩
end Go.Proofs.Ytencmnjkkkhngaa
