/-
What is proved: the life that the program tells of swings on a curve.
-/
import Derived.Test.YthengechoaodcaaLifeS
import Derived.Deep.RegionHeld3
namespace Go.Proofs.Ythengechoaodcaa
set_option maxRecDepth 40000
open Go.RowKit
set_option linter.unusedVariables false

set_option maxHeartbeats 1000000 in
theorem implLife_far (s s2 : Option Addr) (n c n2 c2 : Nat) (V V2 : Nat → Int) (w : World) (hn : (n : Int) ≤ 1048576) (HR : Hid (RowI w s (n * 2) V)) (HC : Hid (RowI w s2 (n2 * 2) V2)) (h4 : (400 : Int) < n) :
    Calls Try.prog 25 #[.slice s n c, .slice s2 n2 c2] w fun e w' => (∃ a b ok, LifeV n n2 V V2 a b ok ∧ e = .returned (.tuple #[.agg #[.int .i64 a, .int .i64 b], .bool ok])) ∧ Below w.heap.size w w' := by
  go_enter Try.func25, Try.ntmps25
  go_wp2
  exact bodyPost_ret (v := .tuple #[.agg #[.int .i64 0, .int .i64 0], .bool false]) (by simp [results, Try.results25, go_sem]) rfl ⟨⟨0, 0, false, .inr ⟨fun q => by omega, rfl, rfl, rfl⟩, rfl⟩, (by repeat (first | with_reducible exact Below.refl _ _ | with_reducible refine Below.setCell ?_ (by first | omega | (simp; done) | (simp; omega)) _ | with_reducible refine bDrewN ?_ _ | with_reducible refine Below.drew ?_ | with_reducible refine Below.alloc ?_ (by first | omega | (simp; done) | (simp; omega)) _))⟩

theorem ret_part {n2 : Nat} {V2 : Nat → Int} {r h : Int} (hp : PartV n2 V2 r h 0 0 false) : ∃ x y ok, PartV n2 V2 r h x y ok ∧ Ending.returned (.tuple #[.agg #[.int .i64 0, .int .i64 0], .bool false]) = .returned (.tuple #[.agg #[.int .i64 x, .int .i64 y], .bool ok]) := ⟨0, 0, false, hp, rfl⟩
set_option maxRecDepth 20000 in
set_option maxHeartbeats 2000000 in
theorem lifeOn_any (s2 : Option Addr) (n2 c2 : Nat) (V2 : Nat → Int) (r h : Int) (w : World) (HC : Hid (RowI w s2 (n2 * 2) V2)) :
    Calls Try.prog 55 #[.agg #[.int .i64 r, .int .i64 h], .slice s2 n2 c2] w fun e w' => (∃ x y ok, PartV n2 V2 r h x y ok ∧ e = .returned (.tuple #[.agg #[.int .i64 x, .int .i64 y], .bool ok])) ∧ Below w.heap.size w w' := by
  by_cases hi : 1 ≤ h ∧ h ≤ 2
  · obtain ⟨i1, i2⟩ := hi
    go_enter Try.func55, Try.ntmps55
    go_wp2_with fail
    refine (within_yes _ _ _ _ i1 i2).mono ?_
    rintro e w0 ⟨rfl, hw0⟩
    subst hw0
    go_wp2_with fail
    refine (implAlong_any s2 n2 c2 V2 r _ (HC.out.below (by repeat (first | with_reducible exact Below.refl _ _ | with_reducible refine Below.setCell ?_ (by first | omega | (simp; done) | (simp; omega)) _ | with_reducible refine bDrewN ?_ _ | with_reducible refine Below.drew ?_ | with_reducible refine Below.alloc ?_ (by first | omega | (simp; done) | (simp; omega)) _)))).mono ?_
    rintro e w1 ⟨⟨v, ok, A, rfl⟩, h1⟩
    obtain ⟨v1, v2⟩ := A.small
    have HA : Hid (AV n2 V2 r v ok) := A
    have z1 := h1.size
    simp at z1
    have B1 : Below w.heap.size w w1 := Below.trans (by repeat (first | with_reducible exact Below.refl _ _ | with_reducible refine Below.setCell ?_ (by first | omega | (simp; done) | (simp; omega)) _ | with_reducible refine bDrewN ?_ _ | with_reducible refine Below.drew ?_ | with_reducible refine Below.alloc ?_ (by first | omega | (simp; done) | (simp; omega)) _)) (h1.mono (by first | omega | (simp; done) | (simp; omega)))
    have q0 : w1.cell? ⟨w.heap.size, 0, none⟩ = some (.int .i64 r) := (h1.cell (p := ⟨w.heap.size, 0, none⟩) (by simp; omega)).trans (by simp [go_sem])
    have q1 : w1.cell? ⟨w.heap.size, 1, none⟩ = some (.int .i64 h) := (h1.cell (p := ⟨w.heap.size, 1, none⟩) (by simp; omega)).trans (by simp [go_sem])
    have q2 : w1.cell? ⟨w.heap.size + 1, 0, none⟩ = some (.int .i64 0) := (h1.cell (p := ⟨w.heap.size + 1, 0, none⟩) (by simp)).trans (by simp [go_sem])
    have q3 : w1.cell? ⟨w.heap.size + 1, 1, none⟩ = some (.int .i64 0) := (h1.cell (p := ⟨w.heap.size + 1, 1, none⟩) (by simp)).trans (by simp [go_sem])
    have f1 : ∀ o, w1.frozen? ⟨w.heap.size + 1, o, none⟩ = false := fun o => (h1.frozen (p := ⟨w.heap.size + 1, o, none⟩) (by simp)).trans (by simp [go_sem])
    have zw : w.heap.size < w1.heap.size := by omega
    have zw1 : w.heap.size + 1 < w1.heap.size := by omega
    clear A h1
    cases ok
    · have FV : Hid (PartV n2 V2 r h 0 0 false) := .inr ⟨fun ⟨u, p, _⟩ => (by have := (HA.out.one p).2; cases this), rfl, rfl, rfl⟩
      go_wp2
      exact bodyPost_ret (v := .tuple #[.agg #[.int .i64 0, .int .i64 0], .bool false]) (by simp [results, Try.results55, go_sem, q2, q3]) rfl ⟨ret_part FV.out, (by repeat (first | with_reducible exact Below.refl _ _ | with_reducible exact B1 | with_reducible refine Below.setCell ?_ (by first | omega | (simp; done) | (simp; omega)) _ | with_reducible refine bDrewN ?_ _ | with_reducible refine Below.drew ?_ | with_reducible refine Below.alloc ?_ (by first | omega | (simp; done) | (simp; omega)) _))⟩
    by_cases hv : v < 1
    · have FV : Hid (PartV n2 V2 r h 0 0 false) := .inr ⟨fun ⟨u, p, p1, _⟩ => (by have := (HA.out.one p).1; omega), rfl, rfl, rfl⟩
      go_wp2
      exact bodyPost_ret (v := .tuple #[.agg #[.int .i64 0, .int .i64 0], .bool false]) (by simp [results, Try.results55, go_sem, q2, q3]) rfl ⟨ret_part FV.out, (by repeat (first | with_reducible exact Below.refl _ _ | with_reducible exact B1 | with_reducible refine Below.setCell ?_ (by first | omega | (simp; done) | (simp; omega)) _ | with_reducible refine bDrewN ?_ _ | with_reducible refine Below.drew ?_ | with_reducible refine Below.alloc ?_ (by first | omega | (simp; done) | (simp; omega)) _))⟩
    have PV : Hid (PartV n2 V2 r h (mkNum h (2 * v)) (mkDen h (2 * v)) true) := .inl ⟨v, HA.out, by omega, i1, i2, rfl, rfl, rfl⟩
    have MO : Hid (mkOk h (2 * v) = true) := mk_part i1 i2 (by omega) v2
    obtain ⟨x, hx⟩ : ∃ x, x = mkNum h (2 * v) := ⟨_, rfl⟩
    obtain ⟨y, hy⟩ : ∃ y, y = mkDen h (2 * v) := ⟨_, rfl⟩
    have K : Hid (∀ w, Calls Try.prog 75 #[.int .i64 h, .int .i64 (2 * v)] w fun e w' => e = .returned (.tuple #[.agg #[.int .i64 x, .int .i64 y], .bool true]) ∧ Below w.heap.size w w') := fun w => by
      have := implMakeFrac_any h (2 * v) w (by omega) (by omega) (by omega) (by omega)
      rw [MO.out] at this
      rw [hx, hy]; exact this
    rw [← hx, ← hy] at PV
    clear hx hy MO
    go_wp2_with fail
    refine (K.out _).mono ?_
    rintro e w3 ⟨rfl, h3⟩
    have B3 : Below w.heap.size w w3 := B1.trans (h3.mono B1.size)
    have r2 : w3.cell? ⟨w.heap.size + 1, 0, none⟩ = some (.int .i64 0) := (h3.cell (p := ⟨w.heap.size + 1, 0, none⟩) zw1).trans q2
    have r3 : w3.cell? ⟨w.heap.size + 1, 1, none⟩ = some (.int .i64 0) := (h3.cell (p := ⟨w.heap.size + 1, 1, none⟩) zw1).trans q3
    have g1 : ∀ o, w3.frozen? ⟨w.heap.size + 1, o, none⟩ = false := fun o => (h3.frozen (p := ⟨w.heap.size + 1, o, none⟩) zw1).trans (f1 o)
    have z3 : w.heap.size + 1 < w3.heap.size := Nat.lt_of_lt_of_le zw1 h3.size
    clear h3 q0 q1 q2 q3 f1
    go_wp2
    exact bodyPost_ret (v := .tuple #[.agg #[.int .i64 x, .int .i64 y], .bool true]) (by simp [results, Try.results55, go_sem, r2, r3]) rfl ⟨⟨x, y, true, PV.out, rfl⟩, (by repeat (first | with_reducible exact Below.refl _ _ | with_reducible exact B3 | with_reducible refine Below.setCell ?_ (by first | omega | (simp; done) | (simp; omega)) _ | with_reducible refine bDrewN ?_ _ | with_reducible refine Below.drew ?_ | with_reducible refine Below.alloc ?_ (by first | omega | (simp; done) | (simp; omega)) _))⟩
  · have FV : Hid (PartV n2 V2 r h 0 0 false) := .inr ⟨fun ⟨u, p, p1, p2, p3⟩ => hi ⟨p2, p3⟩, rfl, rfl, rfl⟩
    go_enter Try.func55, Try.ntmps55
    go_wp2_with fail
    refine (within_no _ _ _ _ (by omega)).mono ?_
    rintro e w0 ⟨rfl, hw0⟩
    subst hw0
    go_wp2
    exact bodyPost_ret (v := .tuple #[.agg #[.int .i64 0, .int .i64 0], .bool false]) (by simp [results, Try.results55, go_sem]) rfl ⟨ret_part FV.out, (by repeat (first | with_reducible exact Below.refl _ _ | with_reducible refine Below.setCell ?_ (by first | omega | (simp; done) | (simp; omega)) _ | with_reducible refine bDrewN ?_ _ | with_reducible refine Below.drew ?_ | with_reducible refine Below.alloc ?_ (by first | omega | (simp; done) | (simp; omega)) _))⟩

theorem PartV.bd {n2 : Nat} {V2 : Nat → Int} {r h x y : Int} {ok : Bool} (p : PartV n2 V2 r h x y ok) : -1000000000 ≤ x ∧ x ≤ 1000000000 ∧ 0 ≤ y ∧ y ≤ 1000000000 := by
  rcases p with ⟨v, _, _, _, _, rfl, rfl, _⟩ | ⟨_, rfl, rfl, _⟩
  · exact mk_bd _ _
  · omega
set_option maxRecDepth 20000 in
set_option maxHeartbeats 4000000 in
theorem implLife_in (s s2 : Option Addr) (n c n2 c2 : Nat) (V V2 : Nat → Int) (w : World) (hn : (n : Int) ≤ 1048576) (HR : Hid (RowI w s (n * 2) V)) (HC : Hid (RowI w s2 (n2 * 2) V2)) (h4 : (n : Int) ≤ 400) :
    Calls Try.prog 25 #[.slice s n c, .slice s2 n2 c2] w fun e w' => (∃ a b ok, LifeV n n2 V V2 a b ok ∧ e = .returned (.tuple #[.agg #[.int .i64 a, .int .i64 b], .bool ok])) ∧ Below w.heap.size w w' := by
  go_enter Try.func25, Try.ntmps25
  go_wp2_with fail
  go_loopw [18] (fun i wr => ∃ k : Nat, k ≤ n ∧ i = .int .i64 k ∧ ∃ a b, Hid (LifeTo n2 V2 V k a b) ∧ Box2 w wr a b) (fun i _ => n - (intOf i).toNat)
  case atStart => exact ⟨0, Nat.zero_le _, rfl, 0, 1, ⟨rfl, rfl⟩, box2_start w _⟩
  case round =>
    obtain ⟨k, hk, rfl, a, b, HL, hX⟩ := hrel
    have HX : Hid (Box2 w wr a b) := hX
    obtain ⟨ab1, ab2, ab3, ab4⟩ := HL.out.bd
    by_cases hlt : k < n
    · obtain ⟨hB, zz, f0, f1, q0, q1, q2, q3⟩ := hX
      have HR' := HR.out.below hB
      have HC' : Hid (∀ ob, RowI (wr.alloc ob) s2 (n2 * 2) V2) := fun ob => (HC.out.below hB).below (below0 wr ob)
      obtain ⟨g, o, rfl, hg, c0⟩ := HR' (k * 2) (by omega)
      obtain ⟨g', o', e', hg', c1⟩ := HR' (k * 2 + 1) (by omega)
      cases e'
      have c1' : wr.cell? ⟨g, o + k * 2 + 1, none⟩ = some (.int .i64 (V (k * 2 + 1))) := c1
      have k1 : (k : Int) < (n : Int) := by omega
      have zw : w.heap.size < wr.heap.size := by omega
      obtain ⟨h, hh⟩ : ∃ h, h = V (k * 2 + 1) := ⟨_, rfl⟩
      obtain ⟨r, hr⟩ : ∃ r, r = V (k * 2) := ⟨_, rfl⟩
      rw [← hh] at c1'
      rw [← hr] at c0
      have HH : Hid (h = V (k * 2 + 1) ∧ r = V (k * 2)) := ⟨hh, hr⟩
      clear hh hr HR' hB c1 f0 f1 q0 q1 q2 q3
      go_wp2_with fail
      refine (lifeOn_any s2 n2 c2 V2 r h _ (HC'.out _)).mono ?_
      rintro e w1 ⟨⟨x, y, ok, P, rfl⟩, h1⟩
      obtain ⟨m1, m2, m3, m4⟩ := P.bd
      have PV : Hid (PartV n2 V2 (V (k * 2)) (V (k * 2 + 1)) x y ok) := HH.out.1 ▸ HH.out.2 ▸ P
      have X1 := (HX.out.keep (below0 wr _)).keep h1
      have HX1 : Hid (Box2 w w1 a b) := X1
      obtain ⟨B1, z1, f0, f1, q0, q1, q2, q3⟩ := X1
      have zw1 : w.heap.size < w1.heap.size := by omega
      clear P h1 c0 c1'
      cases ok
      · have FV : Hid (LifeV n n2 V V2 0 0 false) := life_part hlt PV.out
        go_wp2
        exact bodyPost_ret (v := .tuple #[.agg #[.int .i64 0, .int .i64 0], .bool false]) (by simp [results, Try.results25, go_sem, q0, q1, zw1]) rfl ⟨ret_life FV.out, (by repeat (first | with_reducible exact Below.refl _ _ | with_reducible exact B1 | with_reducible refine Below.setCell ?_ (by first | omega | (simp; done) | (simp; omega)) _ | with_reducible refine bDrewN ?_ _ | with_reducible refine Below.drew ?_ | with_reducible refine Below.alloc ?_ (by first | omega | (simp; done) | (simp; omega)) _))⟩
      obtain ⟨sn, hsn⟩ : ∃ z, z = opNum a b x y (a * y + x * b) (b * y) := ⟨_, rfl⟩
      obtain ⟨sd, hsd⟩ : ∃ z, z = opDen a b x y (a * y + x * b) (b * y) := ⟨_, rfl⟩
      obtain ⟨sk, hsk⟩ : ∃ z, z = opOk a b x y (a * y + x * b) (b * y) := ⟨_, rfl⟩
      have K2 : Hid (∀ w, Calls Try.prog 26 #[.agg #[.int .i64 a, .int .i64 b], .agg #[.int .i64 x, .int .i64 y]] w fun e w' => e = .returned (.tuple #[.agg #[.int .i64 sn, .int .i64 sd], .bool sk]) ∧ Below w.heap.size w w') := fun w => by
        rw [hsn, hsd, hsk]; exact implAddFrac_any a b x y w (by omega) (by omega) (by omega) (by omega) (by omega) (by omega) (by omega) (by omega)
      have HS : Hid (sn = opNum a b x y (a * y + x * b) (b * y) ∧ sd = opDen a b x y (a * y + x * b) (b * y) ∧ sk = opOk a b x y (a * y + x * b) (b * y)) := ⟨hsn, hsd, hsk⟩
      clear hsn hsd hsk B1
      go_wp2_with fail
      refine (K2.out _).mono ?_
      rintro e w4 ⟨rfl, h4'⟩
      have X4 := (HX1.out.keep (below0 w1 _)).keep h4'
      have HX4 : Hid (Box2 w w4 a b) := X4
      clear f0 f1 q0 q1 q2 q3 z1
      obtain ⟨B4, z4, f0, f1, q0, q1, q2, q3⟩ := X4
      have zw4 : w.heap.size < w4.heap.size := by omega
      clear h4'
      cases sk
      · have FV : Hid (LifeV n n2 V V2 0 0 false) := life_sum hlt HL.out PV.out HS.out.2.2.symm
        go_wp2
        exact bodyPost_ret (v := .tuple #[.agg #[.int .i64 0, .int .i64 0], .bool false]) (by simp [results, Try.results25, go_sem, q0, q1]) rfl ⟨ret_life FV.out, (by repeat (first | with_reducible exact Below.refl _ _ | with_reducible exact B4 | with_reducible refine Below.setCell ?_ (by first | omega | (simp; done) | (simp; omega)) _ | with_reducible refine bDrewN ?_ _ | with_reducible refine Below.drew ?_ | with_reducible refine Below.alloc ?_ (by first | omega | (simp; done) | (simp; omega)) _))⟩
      · have NL : Hid (LifeTo n2 V2 V (k + 1) sn sd) := ⟨a, b, x, y, HL.out, PV.out, HS.out.2.2.symm, HS.out.1, HS.out.2.1⟩
        go_wp2
        go_roundw
        case rel => exact ⟨k + 1, by omega, by go_num, sn, sd, NL, HX4.out.set sn sd⟩
        case measure => simp [intOf]; omega
    · obtain rfl : k = n := by omega
      obtain ⟨hB, zz, f0, f1, q0, q1, q2, q3⟩ := hX
      have zw : w.heap.size < wr.heap.size := by omega
      go_wp2
      exact bodyPost_ret (v := .tuple #[.agg #[.int .i64 a, .int .i64 b], .bool true]) (by simp [results, Try.results25, go_sem, q0, q1]) rfl ⟨⟨a, b, true, .inl ⟨by omega, HL.out, rfl⟩, rfl⟩, (by repeat (first | with_reducible exact Below.refl _ _ | with_reducible exact hB | with_reducible refine Below.setCell ?_ (by first | omega | (simp; done) | (simp; omega)) _ | with_reducible refine bDrewN ?_ _ | with_reducible refine Below.drew ?_ | with_reducible refine Below.alloc ?_ (by first | omega | (simp; done) | (simp; omega)) _))⟩
theorem implLife_any (s s2 : Option Addr) (n c n2 c2 : Nat) (V V2 : Nat → Int) (w : World) (hn : (n : Int) ≤ 1048576) (HR : Hid (RowI w s (n * 2) V)) (HC : Hid (RowI w s2 (n2 * 2) V2)) :
    Calls Try.prog 25 #[.slice s n c, .slice s2 n2 c2] w fun e w' => (∃ a b ok, LifeV n n2 V V2 a b ok ∧ e = .returned (.tuple #[.agg #[.int .i64 a, .int .i64 b], .bool ok])) ∧ Below w.heap.size w w' := by
  by_cases h : (n : Int) ≤ 400
  · exact implLife_in s s2 n c n2 c2 V V2 w hn HR HC h
  · exact implLife_far s s2 n c n2 c2 V V2 w hn HR HC (by omega)
end Go.Proofs.Ythengechoaodcaa
