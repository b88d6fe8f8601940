/-
What is proved: whether two readings are near, and how many friends a reading has, as the specification tells it.
-/
import Derived.Test.YtffbpidldnbgaaaVal
import Derived.Deep.RegionHeldLaw
namespace Go.Proofs.Ytffbpidldnbgaaa
set_option maxRecDepth 40000
open Go.RowKit
set_option linter.unusedVariables false
set_option linter.unusedSimpArgs false

set_option maxHeartbeats 2000000 in
theorem l12Near_any {x y z : Nat} {o v a : Option Nat} (hx : Fl x o) (hy : Fl y v) (hz : Fl z a) (w : World) : Calls Try.prog 27 #[.float .f64 x, .float .f64 y, .float .f64 z] w fun e w' => e = .returned (.bool (knP o && (knP v && nearO o v a))) ∧ Below w.heap.size w w' := by
  have kx := knownP_fl hx
  have ky := knownP_fl hy
  have HK : Hid (knP o = knownB x ∧ knP v = knownB y) := ⟨kx.symm, ky.symm⟩
  clear kx ky
  go_enter Try.func27, Try.ntmps27
  go_wp2_with fail
  refine (specKnown_any x _).mono ?_
  rintro e w1 ⟨rfl, n1, rfl⟩
  cases h0 : knownB x
  · go_wp2
    go_ret
    exact ⟨ret_bool (by rw [HK.out.1, h0]; rfl), (by repeat (first | with_reducible exact Below.refl _ _ | with_reducible refine Below.setCell ?_ (by first | omega | (simp; done) | (simp; omega)) _ | with_reducible refine bDrewN ?_ _ | with_reducible refine Below.drew ?_ | with_reducible refine Below.alloc ?_ (by first | omega | (simp; done) | (simp; omega)) _))⟩
  go_wp2_with fail
  refine (specKnown_any y _).mono ?_
  rintro e w1 ⟨rfl, n2, rfl⟩
  cases h1 : knownB y
  · go_wp2
    go_ret
    exact ⟨ret_bool (by rw [HK.out.1, HK.out.2, h0, h1]; rfl), (by repeat (first | with_reducible exact Below.refl _ _ | with_reducible refine Below.setCell ?_ (by first | omega | (simp; done) | (simp; omega)) _ | with_reducible refine bDrewN ?_ _ | with_reducible refine Below.drew ?_ | with_reducible refine Below.alloc ?_ (by first | omega | (simp; done) | (simp; omega)) _))⟩
  obtain ⟨r, n3, hrun, hr⟩ := fl_run (P := Try.prog) (f := .sub) rfl 25 hx hy (w.drewN (n1 + n2))
  go_wp2_with fail
  refine (l1SizeF_any hr _).mono ?_
  rintro e w2 ⟨t, rfl, ht, rfl⟩
  have ho := fl_order ht hz
  have HQ : Hid (nearO o v a = (FloatKind.f64.format.order t z == some .lt || FloatKind.f64.format.order t z == some .eq)) := show nearO o v a = _ by unfold nearO leqB distO; rw [← ho]
  clear ho hr hrun
  go_wp2
  go_ret
  exact ⟨ret_bool (by rw [HK.out.1, HK.out.2, h0, h1, HQ.out]; simp), (by repeat (first | with_reducible exact Below.refl _ _ | with_reducible refine Below.setCell ?_ (by first | omega | (simp; done) | (simp; omega)) _ | with_reducible refine bDrewN ?_ _ | with_reducible refine Below.drew ?_ | with_reducible refine Below.alloc ?_ (by first | omega | (simp; done) | (simp; omega)) _))⟩
theorem keepF2 {W W' : World} {p q : Addr} {a b : Value} (h0 : W.cell? p = some a) (h1 : W.cell? q = some b) (hp : p.block < W.heap.size) (hq : q.block < W.heap.size) (hb : Below W.heap.size W W') : W'.cell? p = some a ∧ W'.cell? q = some b := ⟨(hb.cell hp).trans h0, (hb.cell hq).trans h1⟩
set_option maxRecDepth 20000 in
set_option maxHeartbeats 2000000 in
theorem l12Friends_any (s : Option Addr) (n c i : Nat) (V : Nat → Option Nat) (z : Nat) (a : Option Nat) (hz : Fl z a) (w : World) (hn : n ≤ 16) (hi : i < n) (HR : Hid (RowF w s n V)) :
    Calls Try.prog 26 #[.slice s n c, .int .i64 (i : Int), .float .f64 z] w fun e w' => e = .returned (.int .i64 (frN V a n i : Nat)) ∧ Below w.heap.size w w' := by
  go_enter Try.func26, Try.ntmps26
  go_wp2_with fail
  go_loopw [7, 8] (fun q j wr => ∃ k : Nat, k ≤ n ∧ j = .int .i64 k ∧ q = .int .i64 (cnt (nbB V a i) k : Nat) ∧ Below w.heap.size w wr) (fun _ j _ => n - (intOf j).toNat)
  case atStart => exact ⟨0, Nat.zero_le _, rfl, rfl, Below.refl _ _⟩
  case round =>
    obtain ⟨k, hk, rfl, rfl, hB⟩ := hrel
    by_cases h1 : k < n
    · obtain ⟨g, o, x, rfl, hg, c0, hx⟩ := HR.out i hi
      obtain ⟨g', o', y, e', hg', c1, hy⟩ := HR.out k h1
      cases e'
      have d0 : wr.cell? ⟨g, o + i, none⟩ = some (.float .f64 x) := (hB.cell (p := ⟨g, o + i, none⟩) hg).trans c0
      have d1 : wr.cell? ⟨g, o + k, none⟩ = some (.float .f64 y) := (hB.cell (p := ⟨g, o + k, none⟩) hg).trans c1
      have zg : g < wr.heap.size := Nat.lt_of_lt_of_le hg hB.size
      have k1 : (k : Int) < (n : Int) := by omega
      have i1 : (i : Int) < (n : Int) := by omega
      have cl := cnt_le (nbB V a i) k
      have NR : Hid (∀ w, Calls Try.prog 27 #[.float .f64 x, .float .f64 y, .float .f64 z] w fun e w' => e = .returned (.bool (nbB V a i k)) ∧ Below w.heap.size w w') := fun w => l12Near_any hx hy hz w
      have HB : Hid (Below w.heap.size w wr) := hB
      have sB := hB.size
      clear c0 c1 hg hg' hx hy hB
      cases hb : nbB V a i k
      · have E : Hid (cnt (nbB V a i) (k + 1) = cnt (nbB V a i) k) := cnt_no hb
        rw [hb] at NR
        go_wp2_with fail
        go_region_held3 (fun w' => w'.cell? ⟨g, o + i, none⟩ = some (.float .f64 x) ∧ w'.cell? ⟨g, o + k, none⟩ = some (.float .f64 y)) (first | (refine keepF2 d0 d1 zg zg ?_; exact (by repeat (first | with_reducible exact Below.refl _ _ | with_reducible exact B3 | with_reducible refine Below.setCell ?_ (by first | omega | (simp; done) | (simp; omega)) _ | with_reducible refine bDrewN ?_ _ | with_reducible refine Below.drew ?_ | with_reducible refine Below.alloc ?_ (by first | omega | (simp; done) | (simp; omega)) _)))) (first
          | (go_at_call 27; refine (NR.out _).mono ?_; rintro r w3 ⟨rfl, h3⟩; have B3 : Below wr.heap.size wr w3 := Below.trans (by repeat (first | with_reducible exact Below.refl _ _ | with_reducible refine Below.setCell ?_ (by first | omega | (simp; done) | (simp; omega)) _ | with_reducible refine bDrewN ?_ _ | with_reducible refine Below.drew ?_ | with_reducible refine Below.alloc ?_ (by first | omega | (simp; done) | (simp; omega)) _)) (h3.mono (by first | omega | (simp; done) | (simp; omega)))))
        all_goals
          have B4 : Below w.heap.size w w3 := HB.out.trans (B3.mono sB)
          go_wp2
          go_roundw
          case rel => exact ⟨k + 1, by omega, by go_num, by rw [E.out], (by repeat (first | with_reducible exact Below.refl _ _ | with_reducible exact B4 | with_reducible refine Below.setCell ?_ (by first | omega | (simp; done) | (simp; omega)) _ | with_reducible refine bDrewN ?_ _ | with_reducible refine Below.drew ?_ | with_reducible refine Below.alloc ?_ (by first | omega | (simp; done) | (simp; omega)) _))⟩
          case measure => simp [intOf]; omega
      · have E : Hid (cnt (nbB V a i) (k + 1) = cnt (nbB V a i) k + 1) := cnt_yes hb
        rw [hb] at NR
        go_wp2_with fail
        go_region_held3 (fun w' => w'.cell? ⟨g, o + i, none⟩ = some (.float .f64 x) ∧ w'.cell? ⟨g, o + k, none⟩ = some (.float .f64 y)) (first | (refine keepF2 d0 d1 zg zg ?_; exact (by repeat (first | with_reducible exact Below.refl _ _ | with_reducible exact B3 | with_reducible refine Below.setCell ?_ (by first | omega | (simp; done) | (simp; omega)) _ | with_reducible refine bDrewN ?_ _ | with_reducible refine Below.drew ?_ | with_reducible refine Below.alloc ?_ (by first | omega | (simp; done) | (simp; omega)) _)))) (first
          | (go_at_call 27; refine (NR.out _).mono ?_; rintro r w3 ⟨rfl, h3⟩; have B3 : Below wr.heap.size wr w3 := Below.trans (by repeat (first | with_reducible exact Below.refl _ _ | with_reducible refine Below.setCell ?_ (by first | omega | (simp; done) | (simp; omega)) _ | with_reducible refine bDrewN ?_ _ | with_reducible refine Below.drew ?_ | with_reducible refine Below.alloc ?_ (by first | omega | (simp; done) | (simp; omega)) _)) (h3.mono (by first | omega | (simp; done) | (simp; omega)))))
        all_goals
          have B4 : Below w.heap.size w w3 := HB.out.trans (B3.mono sB)
          go_wp2
          go_roundw
          case rel => exact ⟨k + 1, by omega, by go_num, by rw [E.out]; go_num, (by repeat (first | with_reducible exact Below.refl _ _ | with_reducible exact B4 | with_reducible refine Below.setCell ?_ (by first | omega | (simp; done) | (simp; omega)) _ | with_reducible refine bDrewN ?_ _ | with_reducible refine Below.drew ?_ | with_reducible refine Below.alloc ?_ (by first | omega | (simp; done) | (simp; omega)) _))⟩
          case measure => simp [intOf]; omega
    · obtain rfl : k = n := by omega
      go_wp2
      go_ret
      exact ⟨rfl, (by repeat (first | with_reducible exact Below.refl _ _ | with_reducible exact hB | with_reducible refine Below.setCell ?_ (by first | omega | (simp; done) | (simp; omega)) _ | with_reducible refine bDrewN ?_ _ | with_reducible refine Below.drew ?_ | with_reducible refine Below.alloc ?_ (by first | omega | (simp; done) | (simp; omega)) _))⟩
end Go.Proofs.Ytffbpidldnbgaaa
