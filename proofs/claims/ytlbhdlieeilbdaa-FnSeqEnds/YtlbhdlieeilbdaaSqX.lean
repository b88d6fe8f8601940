/-
What is proved: where a sequence stands and what a tick makes of it, in numbers, and as both packages tell it.
-/
import Derived.Test.YtlbhdlieeilbdaaPl
import Derived.BigQuiet
namespace Go.Proofs.Ytlbhdlieeilbdaa
set_option maxRecDepth 40000
open Go.RowKit
set_option linter.unusedVariables false
set_option linter.unusedSimpArgs false

def shB (S u : Int) : Bool := bits BinOp.and IntKind.i64 (S / 2 ^ u.toNat) 1 == 1
def stnB (n : Nat) (V : Nat → Int) (a t : Int) : Bool := if modB a = true then decide (t = 0) else inB 0 ((n : Int) - 1) a && inB 0 (V (a.toNat * 5 + 2) - 1) t
def seqB (n : Nat) (V : Nat → Int) (a t S : Int) : Bool := planB n V && (stnB n V a t && inB 0 65535 S)
def nxtV (V : Nat → Int) (a t S : Int) (H : Bool) : Int × Int := if modB a = true then (a, t) else if shB S (V (a.toNat * 5 + 1)) = true then (V (a.toNat * 5 + 3), 0) else if H = true then (a, t) else if t + 1 = V (a.toNat * 5 + 2) then (V (a.toNat * 5 + 4), 0) else (a, t + 1)
def seqV (n : Nat) (V : Nat → Int) (a t S : Int) (H : Bool) : Int × Int := if seqB n V a t S = true then nxtV V a t S H else (0, 0)
def doV (V : Nat → Int) (a : Int) : Int := if modB a = true then a else V (a.toNat * 5)
theorem mod_yes {a : Int} (h : modB a = true) : -3 ≤ a ∧ a ≤ -1 := inB_yes h
theorem mod_no {a : Int} (h : modB a = false) : a < -3 ∨ -1 < a := inB_no h
theorem stn_mod {n : Nat} {V : Nat → Int} {a t : Int} (h : modB a = true) : stnB n V a t = decide (t = 0) := by unfold stnB; rw [if_pos h]
theorem stn_off {n : Nat} {V : Nat → Int} {a t : Int} (h : modB a = false) (h1 : inB 0 ((n : Int) - 1) a = false) : stnB n V a t = false := by unfold stnB; rw [if_neg (by rw [h]; simp), h1]; rfl
theorem stn_on {n : Nat} {V : Nat → Int} {a t : Int} (h : modB a = false) (h1 : inB 0 ((n : Int) - 1) a = true) : stnB n V a t = inB 0 (V (a.toNat * 5 + 2) - 1) t := by unfold stnB; rw [if_neg (by rw [h]; simp), h1]; rfl
theorem nxt_mod {V : Nat → Int} {a t S : Int} {H : Bool} (h : modB a = true) : nxtV V a t S H = (a, t) := by unfold nxtV; rw [if_pos h]
theorem mod_nat (k : Nat) : modB (k : Int) = false := by unfold modB inB; simp; omega
theorem nxt_show {V : Nat → Int} {k : Nat} {t S : Int} {H : Bool} (h : shB S (V (k * 5 + 1)) = true) : nxtV V k t S H = (V (k * 5 + 3), 0) := by unfold nxtV; rw [if_neg (by rw [mod_nat]; simp), Int.toNat_natCast, if_pos h]
theorem nxt_hold {V : Nat → Int} {k : Nat} {t S : Int} (h : shB S (V (k * 5 + 1)) = false) : nxtV V k t S true = ((k : Int), t) := by unfold nxtV; rw [if_neg (by rw [mod_nat]; simp), Int.toNat_natCast, if_neg (by rw [h]; simp), if_pos rfl]
theorem nxt_late {V : Nat → Int} {k : Nat} {t S : Int} (h : shB S (V (k * 5 + 1)) = false) (ht : t + 1 = V (k * 5 + 2)) : nxtV V k t S false = (V (k * 5 + 4), 0) := by unfold nxtV; rw [if_neg (by rw [mod_nat]; simp), Int.toNat_natCast, if_neg (by rw [h]; simp), if_neg (by simp), if_pos ht]
theorem nxt_wait {V : Nat → Int} {k : Nat} {t S : Int} (h : shB S (V (k * 5 + 1)) = false) (ht : t + 1 ≠ V (k * 5 + 2)) : nxtV V k t S false = ((k : Int), t + 1) := by unfold nxtV; rw [if_neg (by rw [mod_nat]; simp), Int.toNat_natCast, if_neg (by rw [h]; simp), if_neg (by simp), if_neg ht]
theorem quiet_at {P : Program} {f : Nat} {vs : Array Value} {w : World} {v : Value} (h : Calls P f vs w fun e w' => e = .returned v ∧ w' = w) : Calls P f vs w fun e w' => e = .returned v ∧ w' = w := h
set_option maxHeartbeats 800000 in
theorem tickRight_any (S : Int) (H : Bool) (w : World) : Calls Try.prog 35 #[.agg #[.int .i64 S, .bool H]] w fun e w' => e = .returned (.bool (inB 0 65535 S)) ∧ Below w.heap.size w w' := by
  go_enter Try.func35, Try.ntmps35
  go_wp2_with fail
  refine (within_is _ _ _ _).mono ?_
  rintro e w1 ⟨rfl, rfl⟩
  go_wp2
  go_ret
  exact ⟨rfl, (by repeat (first | with_reducible exact Below.refl _ _ | with_reducible refine Below.setCell ?_ (by first | omega | (simp; done) | (simp; omega)) _ | with_reducible refine bDrewN ?_ _ | with_reducible refine Below.drew ?_ | with_reducible refine Below.alloc ?_ (by first | omega | (simp; done) | (simp; omega)) _))⟩
set_option maxHeartbeats 800000 in
theorem shows_any (S : Int) (H : Bool) (u : Int) (w : World) (u0 : 0 ≤ u) (u1 : u ≤ 15) (s0 : 0 ≤ S) (s1 : S ≤ 65535) : Calls Try.prog 58 #[.agg #[.int .i64 S, .bool H], .int .i64 u] w fun e w' => e = .returned (.bool (shB S u)) ∧ w' = w.alloc (.cells #[.int .i64 S, .bool H] 29) := by
  go_enter Try.func58, Try.ntmps58
  go_wp2
  go_ret
  exact ⟨rfl, rfl⟩
set_option maxRecDepth 20000 in
set_option maxHeartbeats 4000000 in
theorem behind_any (s : Option Addr) (n c : Nat) (V : Nat → Int) (a t S : Int) (H : Bool) (w : World) (hp : planB n V = true) (hs : stnB n V a t = true) (s0 : 0 ≤ S) (s1 : S ≤ 65535) (HR : Hid (RowI w s (n * 5) V)) :
    Calls Try.prog 37 #[.agg #[.int .i64 a, .int .i64 t], .slice s n c, .agg #[.int .i64 S, .bool H]] w fun e w' => e = .returned (.agg #[.int .i64 (nxtV V a t S H).1, .int .i64 (nxtV V a t S H).2]) ∧ Below w.heap.size w w' := by
  obtain ⟨n1, n40, hj⟩ := plan_yes hp
  clear hp
  have n40' : (n : Int) ≤ 40 := by omega
  cases hm : modB a
  case true =>
    have HO : Hid (nxtV V a t S H = (a, t)) := nxt_mod hm
    go_enter Try.func37, Try.ntmps37
    go_wp2_with fail
    refine (isMode_any _ _).mono ?_
    rintro e w1 ⟨rfl, rfl⟩
    rw [hm]
    go_wp2
    exact bodyPost_ret (v := .agg #[.int .i64 a, .int .i64 t]) (by simp [results, Try.results37, go_sem]) rfl ⟨by rw [HO.out], (by repeat (first | with_reducible exact Below.refl _ _ | with_reducible refine Below.setCell ?_ (by first | omega | (simp; done) | (simp; omega)) _ | with_reducible refine bDrewN ?_ _ | with_reducible refine Below.drew ?_ | with_reducible refine Below.alloc ?_ (by first | omega | (simp; done) | (simp; omega)) _))⟩
  have hi : inB 0 ((n : Int) - 1) a = true := by
    cases q : inB 0 ((n : Int) - 1) a
    · rw [stn_off hm q] at hs; cases hs
    · rfl
  have ht := inB_yes (stn_on hm hi ▸ hs)
  obtain ⟨a0, a1⟩ := inB_yes hi
  obtain ⟨k, rfl⟩ : ∃ k : Nat, a = (k : Int) := ⟨a.toNat, by omega⟩
  rw [Int.toNat_natCast] at ht
  obtain ⟨-, ⟨u0, u1⟩, ⟨l0, l1⟩, -, -⟩ := pln_step (hj k (by omega))
  obtain ⟨t0, t1⟩ := ht
  have kn : (k : Int) < (n : Int) := by omega
  obtain ⟨g, o, rfl, hg, c0⟩ := HR.out (k * 5) (by omega)
  obtain ⟨g', o', e', hg1, c1⟩ := HR.out (k * 5 + 1) (by omega)
  cases e'
  obtain ⟨g', o', e', hg2, c2⟩ := HR.out (k * 5 + 2) (by omega)
  cases e'
  obtain ⟨g', o', e', hg3, c3⟩ := HR.out (k * 5 + 3) (by omega)
  cases e'
  obtain ⟨g', o', e', hg4, c4⟩ := HR.out (k * 5 + 4) (by omega)
  cases e'
  have d0 : w.cell? ⟨g, o + k * 5, none⟩ = some (.int .i64 (V (k * 5))) := c0
  have d1 : w.cell? ⟨g, o + k * 5 + 1, none⟩ = some (.int .i64 (V (k * 5 + 1))) := c1
  have d2 : w.cell? ⟨g, o + k * 5 + 2, none⟩ = some (.int .i64 (V (k * 5 + 2))) := c2
  have d3 : w.cell? ⟨g, o + k * 5 + 3, none⟩ = some (.int .i64 (V (k * 5 + 3))) := c3
  have d4 : w.cell? ⟨g, o + k * 5 + 4, none⟩ = some (.int .i64 (V (k * 5 + 4))) := c4
  clear c0 c1 c2 c3 c4 hg1 hg2 hg3 hg4
  clear hj hs hi a0 a1
  go_enter Try.func37, Try.ntmps37
  go_upto_region 1 with fail
  obtain ⟨wd, hwd⟩ : ∃ wd, wd = ((w.alloc (.cells #[.int .i64 (k : Int), .int .i64 t] 32)).alloc (.cells #[.int .i64 S, .bool H] 29)).alloc (.cells #[.int .i64 0, .int .i64 0] 32) := ⟨_, rfl⟩
  rw [← hwd]
  have B0 : Below w.heap.size w wd := by rw [hwd]; exact (by repeat (first | with_reducible exact Below.refl _ _ | with_reducible refine Below.setCell ?_ (by first | omega | (simp; done) | (simp; omega)) _ | with_reducible refine bDrewN ?_ _ | with_reducible refine Below.drew ?_ | with_reducible refine Below.alloc ?_ (by first | omega | (simp; done) | (simp; omega)) _))
  have p0 : wd.cell? ⟨w.heap.size, 0, none⟩ = some (.int .i64 (k : Int)) := by rw [hwd]; simp [go_sem]
  have p1 : wd.cell? ⟨w.heap.size, 1, none⟩ = some (.int .i64 t) := by rw [hwd]; simp [go_sem]
  have q0 : wd.cell? ⟨w.heap.size + 1, 0, none⟩ = some (.int .i64 S) := by rw [hwd]; simp [go_sem]
  have q1 : wd.cell? ⟨w.heap.size + 1, 1, none⟩ = some (.bool H) := by rw [hwd]; simp [go_sem]
  have r0 : wd.cell? ⟨w.heap.size + 1 + 1, 0, none⟩ = some (.int .i64 0) := by rw [hwd]; simp [go_sem]
  have r1 : wd.cell? ⟨w.heap.size + 1 + 1, 1, none⟩ = some (.int .i64 0) := by rw [hwd]; simp [go_sem]
  have f0 : ∀ j, wd.frozen? ⟨w.heap.size + 1 + 1, j, none⟩ = false := by intro j; rw [hwd]; simp [go_sem]
  have z0 : w.heap.size + 1 + 1 < wd.heap.size := by rw [hwd]; simp
  have z1 : w.heap.size + 1 < wd.heap.size := by omega
  have z2 : w.heap.size < wd.heap.size := by omega
  have zg : g < wd.heap.size := by omega
  replace d0 := (B0.cell (p := ⟨g, o + k * 5, none⟩) hg).trans d0
  replace d1 := (B0.cell (p := ⟨g, o + k * 5 + 1, none⟩) hg).trans d1
  replace d2 := (B0.cell (p := ⟨g, o + k * 5 + 2, none⟩) hg).trans d2
  replace d3 := (B0.cell (p := ⟨g, o + k * 5 + 3, none⟩) hg).trans d3
  replace d4 := (B0.cell (p := ⟨g, o + k * 5 + 4, none⟩) hg).trans d4
  clear hwd
  go_wp2_with fail
  refine (isMode_any _ _).mono ?_
  rintro e w1 ⟨rfl, rfl⟩
  rw [hm]
  go_wp2_with fail
  refine (shows_any _ _ _ _ u0 u1 s0 s1).mono ?_
  rintro e w1 ⟨rfl, rfl⟩
  cases hh : shB S (V (k * 5 + 1))
  case true =>
    have HO : Hid (nxtV V k t S H = (V (k * 5 + 3), 0)) := nxt_show hh
    go_wp2
    exact bodyPost_ret (v := .agg #[.int .i64 (V (k * 5 + 3)), .int .i64 0]) (by simp [results, Try.results37, go_sem, r0, r1, z0, z1, z2]) rfl ⟨by rw [HO.out], (by repeat (first | with_reducible exact Below.refl _ _ | with_reducible exact B0 | with_reducible refine Below.setCell ?_ (by first | omega | (simp; done) | (simp; omega)) _ | with_reducible refine bDrewN ?_ _ | with_reducible refine Below.drew ?_ | with_reducible refine Below.alloc ?_ (by first | omega | (simp; done) | (simp; omega)) _))⟩
  cases H
  case true =>
    have HO : Hid (nxtV V k t S true = ((k : Int), t)) := nxt_hold hh
    go_wp2
    exact bodyPost_ret (v := .agg #[.int .i64 (k : Int), .int .i64 t]) (by simp [results, Try.results37, go_sem, r0, r1, z0, z1, z2]) rfl ⟨by rw [HO.out], (by repeat (first | with_reducible exact Below.refl _ _ | with_reducible exact B0 | with_reducible refine Below.setCell ?_ (by first | omega | (simp; done) | (simp; omega)) _ | with_reducible refine bDrewN ?_ _ | with_reducible refine Below.drew ?_ | with_reducible refine Below.alloc ?_ (by first | omega | (simp; done) | (simp; omega)) _))⟩
  by_cases q : t + 1 = V (k * 5 + 2)
  · have HO : Hid (nxtV V k t S false = (V (k * 5 + 4), 0)) := nxt_late hh q
    have q' : (t + 1 == V (k * 5 + 2)) = true := by simpa using q
    clear q
    go_wp2
    exact bodyPost_ret (v := .agg #[.int .i64 (V (k * 5 + 4)), .int .i64 0]) (by simp [results, Try.results37, go_sem, r0, r1, z0, z1, z2]) rfl ⟨by rw [HO.out], (by repeat (first | with_reducible exact Below.refl _ _ | with_reducible exact B0 | with_reducible refine Below.setCell ?_ (by first | omega | (simp; done) | (simp; omega)) _ | with_reducible refine bDrewN ?_ _ | with_reducible refine Below.drew ?_ | with_reducible refine Below.alloc ?_ (by first | omega | (simp; done) | (simp; omega)) _))⟩
  · have HO : Hid (nxtV V k t S false = ((k : Int), t + 1)) := nxt_wait hh q
    have q' : (t + 1 == V (k * 5 + 2)) = false := by simpa using q
    go_wp2
    exact bodyPost_ret (v := .agg #[.int .i64 (k : Int), .int .i64 (t + 1)]) (by simp [results, Try.results37, go_sem, r0, r1, z0, z1, z2]) rfl ⟨by rw [HO.out], (by repeat (first | with_reducible exact Below.refl _ _ | with_reducible exact B0 | with_reducible refine Below.setCell ?_ (by first | omega | (simp; done) | (simp; omega)) _ | with_reducible refine bDrewN ?_ _ | with_reducible refine Below.drew ?_ | with_reducible refine Below.alloc ?_ (by first | omega | (simp; done) | (simp; omega)) _))⟩
end Go.Proofs.Ytlbhdlieeilbdaa
