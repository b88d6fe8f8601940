/-
What is proved: the program's Back: the least place is found by halving, the question being a closure over a method's value.
-/
import Derived.Test.YthbnfckpaehniaaBackS
import Derived.Test.YthbnfckpaehniaaAlongF
import Derived.Deep.RegionHeld3
namespace Go.Proofs.Ythbnfckpaehniaa
set_option maxRecDepth 40000
open Go.RowKit
set_option linter.unusedVariables false

theorem keep2 {W W' : World} {p q : Nat} {a b : Value} (h0 : W.cell? ⟨p, 0, none⟩ = some a) (h1 : W.cell? ⟨q, 0, none⟩ = some b) (hp : p < W.heap.size) (hq : q < W.heap.size) (hb : Below W.heap.size W W') : W'.cell? ⟨p, 0, none⟩ = some a ∧ W'.cell? ⟨q, 0, none⟩ = some b :=
  ⟨(hb.cell (p := ⟨p, 0, none⟩) hp).trans h0, (hb.cell (p := ⟨q, 0, none⟩) hq).trans h1⟩
set_option maxHeartbeats 1000000 in
theorem met_any (s : Option Addr) (n c p q : Nat) (nm : String) (x y v : Int) (w : World) (hp : p < w.heap.size) (hq : q < w.heap.size) (cp : w.cell? ⟨p, 0, none⟩ = some (.func (.method nm) #[.iface 45 (.slice s n c)] #[])) (cq : w.cell? ⟨q, 0, none⟩ = some (.int .i64 y))
    (hM : ∀ w, (method 183 45 (.slice s n c) nm).run Try.prog w = .ok (55, .slice s n c) w)
    (H : Hid (∀ w', Below w.heap.size w w' → Calls Try.prog 55 #[.slice s n c, .int .i64 x] w' fun e w'' => e = .returned (.int .i64 v) ∧ Below w'.heap.size w' w'')) :
    Calls Try.prog 35 #[.int .i64 x, .pointer (some ⟨p, 0, none⟩), .pointer (some ⟨q, 0, none⟩)] w fun e w' => e = .returned (.bool (decide (y ≤ v))) ∧ Below w.heap.size w w' := by
  go_enter Try.func35, Try.ntmps35
  go_wp2_with fail
  go_region_held3 (fun w' => w'.cell? ⟨p, 0, none⟩ = some (.func (.method nm) #[.iface 45 (.slice s n c)] #[]) ∧ w'.cell? ⟨q, 0, none⟩ = some (.int .i64 y)) (first | (refine keep2 cp cq hp hq ?_; exact (by repeat (first | with_reducible exact Below.refl _ _ | with_reducible exact B3 | with_reducible refine Below.setCell ?_ (by first | omega | (simp; done) | (simp; omega)) _ | with_reducible refine bDrewN ?_ _ | with_reducible refine Below.drew ?_ | with_reducible refine Below.alloc ?_ (by first | omega | (simp; done) | (simp; omega)) _)))) (first
    | (go_at_call 55; refine (H.out _ (by repeat (first | with_reducible exact Below.refl _ _ | with_reducible refine Below.setCell ?_ (by first | omega | (simp; done) | (simp; omega)) _ | with_reducible refine bDrewN ?_ _ | with_reducible refine Below.drew ?_ | with_reducible refine Below.alloc ?_ (by first | omega | (simp; done) | (simp; omega)) _))).mono ?_; rintro r w3 ⟨rfl, h3⟩; have B3 : Below w.heap.size w w3 := Below.trans (by repeat (first | with_reducible exact Below.refl _ _ | with_reducible refine Below.setCell ?_ (by first | omega | (simp; done) | (simp; omega)) _ | with_reducible refine bDrewN ?_ _ | with_reducible refine Below.drew ?_ | with_reducible refine Below.alloc ?_ (by first | omega | (simp; done) | (simp; omega)) _)) (h3.mono (by first | omega | (simp; done) | (simp; omega)))))
  all_goals
    go_wp2
    go_ret
    exact ⟨rfl, (by repeat (first | with_reducible exact Below.refl _ _ | with_reducible exact B3 | with_reducible refine Below.setCell ?_ (by first | omega | (simp; done) | (simp; omega)) _ | with_reducible refine bDrewN ?_ _ | with_reducible refine Below.drew ?_ | with_reducible refine Below.alloc ?_ (by first | omega | (simp; done) | (simp; omega)) _))⟩
set_option maxHeartbeats 1000000 in
theorem leastWhere_any (lo hi L : Int) (p q : Nat) (w : World) (h1 : lo ≤ L) (h2 : L ≤ hi) (h3 : -1000000 ≤ lo) (h4 : hi ≤ 1000000)
    (M : Hid (∀ x w', Below w.heap.size w w' → lo ≤ x → x ≤ hi → Calls Try.prog 35 #[.int .i64 x, .pointer (some ⟨p, 0, none⟩), .pointer (some ⟨q, 0, none⟩)] w' fun e w'' => e = .returned (.bool (decide (L ≤ x))) ∧ Below w'.heap.size w' w'')) :
    Calls Try.prog 34 #[.int .i64 lo, .int .i64 hi, .func (.func 35) #[] #[.pointer (some ⟨p, 0, none⟩), .pointer (some ⟨q, 0, none⟩)]] w fun e w' => e = .returned (.int .i64 L) ∧ Below w.heap.size w w' := by
  go_enter Try.func34, Try.ntmps34
  go_wp2_with fail
  go_loopw [0, 1] (fun i j wr => ∃ l h, i = .int .i64 l ∧ j = .int .i64 h ∧ lo ≤ l ∧ l ≤ L ∧ L ≤ h ∧ h ≤ hi ∧ Below w.heap.size w wr) (fun i j _ => (intOf j - intOf i).toNat)
  case atStart => exact ⟨lo, hi, rfl, rfl, Int.le_refl _, h1, h2, Int.le_refl _, (by repeat (first | with_reducible exact Below.refl _ _ | with_reducible refine Below.setCell ?_ (by first | omega | (simp; done) | (simp; omega)) _ | with_reducible refine bDrewN ?_ _ | with_reducible refine Below.drew ?_ | with_reducible refine Below.alloc ?_ (by first | omega | (simp; done) | (simp; omega)) _))⟩
  case round =>
    obtain ⟨l, h, rfl, rfl, r1, r2, r3, r4, hB⟩ := hrel
    by_cases t : l < h
    · obtain ⟨z, hz⟩ : ∃ z, l + (h - l) / 2 = z := ⟨_, rfl⟩
      have z1 : l ≤ z := by omega
      have z2 : z < h := by omega
      have HB : Hid (Below w.heap.size w wr) := hB
      clear hB
      by_cases u : L ≤ z
      · go_wp2_with fail
        refine (M.out z _ HB.out (by omega) (by omega)).mono ?_
        rintro r w3 ⟨rfl, k3⟩
        have B3 : Below w.heap.size w w3 := HB.out.trans (k3.mono HB.out.size)
        go_wp2
        go_round
        case rel => exact ⟨l, z, rfl, rfl, r1, r2, u, by omega, B3⟩
        case measure => simp [intOf]; omega
      · go_wp2_with fail
        refine (M.out z _ HB.out (by omega) (by omega)).mono ?_
        rintro r w3 ⟨rfl, k3⟩
        have B3 : Below w.heap.size w w3 := HB.out.trans (k3.mono HB.out.size)
        go_wp2
        go_round
        case rel => exact ⟨z + 1, h, by go_num, rfl, by omega, by omega, r3, r4, B3⟩
        case measure => simp [intOf]; omega
    · obtain rfl : l = L := by omega
      go_wp2
      go_ret
      exact ⟨rfl, (by repeat (first | with_reducible exact Below.refl _ _ | with_reducible exact hB | with_reducible refine Below.setCell ?_ (by first | omega | (simp; done) | (simp; omega)) _ | with_reducible refine bDrewN ?_ _ | with_reducible refine Below.drew ?_ | with_reducible refine Below.alloc ?_ (by first | omega | (simp; done) | (simp; omega)) _))⟩
theorem reach_core {s : Option Addr} {n c : Nat} {nm : String} {y lo hi L : Int} {t : TypeId} (w w1 : World) (h1 : lo ≤ L) (h2 : L ≤ hi) (h3 : -1000000 ≤ lo) (h4 : hi ≤ 1000000) (q : Nat) (hq : q < w1.heap.size) (cq : w1.cell? ⟨q, 0, none⟩ = some (.int .i64 y)) (hb : Below w.heap.size w w1)
    (H : ∀ x, lo ≤ x → x ≤ hi → ∃ v, (y ≤ v ↔ L ≤ x) ∧ ∀ w', Below w.heap.size w w' → Calls Try.prog 55 #[.slice s n c, .int .i64 x] w' fun e w'' => e = .returned (.int .i64 v) ∧ Below w'.heap.size w' w'')
    (hM : ∀ w, (method 183 45 (.slice s n c) nm).run Try.prog w = .ok (55, .slice s n c) w) :
    Calls Try.prog 34 #[.int .i64 lo, .int .i64 hi, .func (.func 35) #[] #[.pointer (some ⟨w1.heap.size, 0, none⟩), .pointer (some ⟨q, 0, none⟩)]] (w1.alloc (.cells #[.func (.method nm) #[.iface 45 (.slice s n c)] #[]] t)) fun e w' => e = .returned (.int .i64 L) ∧ Below w1.heap.size w1 w' := by
  refine (leastWhere_any lo hi L w1.heap.size q _ h1 h2 h3 h4 fun x w' hb' x1 x2 => ?_).mono ?_
  · have B0 : Below w1.heap.size w1 w' := (below0 w1 _).trans (hb'.mono (by simp))
    have BW : Below w.heap.size w w' := hb.trans (B0.mono hb.size)
    obtain ⟨v, hv, hh⟩ := H x x1 x2
    have cp : w'.cell? ⟨w1.heap.size, 0, none⟩ = some (.func (.method nm) #[.iface 45 (.slice s n c)] #[]) := by
      rw [hb'.cell (p := ⟨w1.heap.size, 0, none⟩) (by simp)]; simp
    have zp : w1.heap.size < w'.heap.size := by have := hb'.size; simp at this; omega
    have e : decide (L ≤ x) = decide (y ≤ v) := by rw [decide_eq_decide]; exact hv.symm
    rw [e]
    refine met_any s n c w1.heap.size q nm x y v w' zp (by omega) cp ((B0.cell (p := ⟨q, 0, none⟩) hq).trans cq) hM fun w'' hb'' => hh w'' (BW.trans (hb''.mono BW.size))
  · rintro e w' ⟨rfl, hb'⟩
    exact ⟨rfl, (below0 w1 _).trans (hb'.mono (by simp))⟩
set_option maxHeartbeats 1000000 in
theorem leastReaching_any (s : Option Addr) (n c : Nat) (y lo hi L : Int) (w : World) (h1 : lo ≤ L) (h2 : L ≤ hi) (h3 : -1000000 ≤ lo) (h4 : hi ≤ 1000000)
    (E : Hid (∀ w', Below w.heap.size w w' → Calls Try.prog 54 #[.slice s n c] w' fun e w'' => e = .returned (.tuple #[.int .i64 lo, .int .i64 hi]) ∧ Below w'.heap.size w' w''))
    (H : Hid (∀ x, lo ≤ x → x ≤ hi → ∃ v, (y ≤ v ↔ L ≤ x) ∧ ∀ w', Below w.heap.size w w' → Calls Try.prog 55 #[.slice s n c, .int .i64 x] w' fun e w'' => e = .returned (.int .i64 v) ∧ Below w'.heap.size w' w'')) :
    Calls Try.prog 26 #[.iface 45 (.slice s n c), .int .i64 y] w fun e w' => e = .returned (.int .i64 L) ∧ Below w.heap.size w w' := by
  have hst : ∀ (w : World) (a : Addr) (fn : Fn) (x y : Array Value), (store a (.func fn x y)).run Try.prog w = stored Try.prog w a (.func fn x y) .plain := fun w a fn x y => run_store _ _ _ _ _ rfl
  go_enter Try.func26, Try.ntmps26
  go_wp2_with fail
  refine upon_run (a := (54, Value.slice s n c)) (w' := w.alloc (.cells #[.int .i64 y] 2)) (by kernel_rfl) ?_
  go_wp2_with fail
  refine (E.out _ (by repeat (first | with_reducible exact Below.refl _ _ | with_reducible refine Below.setCell ?_ (by first | omega | (simp; done) | (simp; omega)) _ | with_reducible refine bDrewN ?_ _ | with_reducible refine Below.drew ?_ | with_reducible refine Below.alloc ?_ (by first | omega | (simp; done) | (simp; omega)) _))).mono ?_
  rintro r w1 ⟨rfl, k1⟩
  have z1 : w.heap.size < w1.heap.size := by have := k1.size; simp at this; omega
  have cq : w1.cell? ⟨w.heap.size, 0, none⟩ = some (.int .i64 y) := by rw [k1.cell (by first | omega | (simp; done) | (simp; omega))]; simp
  have B1 : Below w.heap.size w w1 := Below.trans (by repeat (first | with_reducible exact Below.refl _ _ | with_reducible refine Below.setCell ?_ (by first | omega | (simp; done) | (simp; omega)) _ | with_reducible refine bDrewN ?_ _ | with_reducible refine Below.drew ?_ | with_reducible refine Below.alloc ?_ (by first | omega | (simp; done) | (simp; omega)) _)) (k1.mono (by first | omega | (simp; done) | (simp; omega)))
  clear k1
  go_wp2_with fail
  refine (reach_core (y := y) w w1 h1 h2 h3 h4 w.heap.size z1 cq B1 H.out ?_).mono ?_
  · intro w; kernel_rfl
  rintro r w2 ⟨rfl, k2⟩
  have B2 : Below w.heap.size w w2 := B1.trans (k2.mono B1.size)
  go_wp2
  go_ret
  exact ⟨rfl, B2⟩
end Go.Proofs.Ythbnfckpaehniaa
