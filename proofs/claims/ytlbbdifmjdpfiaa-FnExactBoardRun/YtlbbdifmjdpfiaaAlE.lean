/-
What is proved: what the law's own helpers do with lists of alarms: their count, whether two are the same; such a list that is handed in, opened.
-/
import Derived.Test.YtlbbdifmjdpfiaaAl
import Derived.Deep.Slices
import Derived.Test.YtlbbdifmjdpfiaaAddrL
namespace Go.Proofs.Ytlbbdifmjdpfiaa
set_option maxRecDepth 40000
open Go.ChangeShapes Go.WideShapes Go.ChangeAt Go.RowKit
set_option linter.unusedVariables false
set_option linter.unusedSimpArgs false

set_option maxHeartbeats 400000 in
theorem szAlarmS_on (s : Option Addr) (n c : Nat) (l : Int) (w : World) (h0 : 0 ≤ l) (h1 : l ≤ 1048576) (hn : (n : Int) ≤ l) : Calls Try.prog 54 #[.slice s n c, .int .i64 l] w fun e w' => e = .returned (.int .i64 (l - (n : Int))) ∧ w' = w := by
  go_enter Try.func54, Try.ntmps54
  go_wp2
  go_ret
  exact ⟨ret_int rfl, rfl⟩
set_option maxHeartbeats 400000 in
theorem szAlarmS_off (s : Option Addr) (n c : Nat) (l : Int) (w : World) (h0 : 0 ≤ l) (h1 : l ≤ 1048576) (hn : l < (n : Int)) (hn2 : (n : Int) ≤ 9223372036854775807) : Calls Try.prog 54 #[.slice s n c, .int .i64 l] w fun e w' => e = .returned (.int .i64 (-1)) ∧ w' = w := by
  go_enter Try.func54, Try.ntmps54
  go_wp2
  go_ret
  exact ⟨ret_int rfl, rfl⟩
set_option maxHeartbeats 400000 in
theorem eqAlarm_any (x0 : Int) (x1 : Int) (x2 : Int) (x3 : Bool) (x4 : Int) (w : World) : Calls Try.prog 85 #[.agg #[.int .i64 x0, .int .i64 x1, .int .i64 x2, .bool x3, .int .i64 x4], .agg #[.int .i64 x0, .int .i64 x1, .int .i64 x2, .bool x3, .int .i64 x4]] w fun r w' => r = .returned (.bool true) ∧ Below w.heap.size w w' := by
  cases x3 <;> (
    go_enter Try.func85, Try.ntmps85
    go_wp2
    go_ret
    exact ⟨rfl, (by repeat (first | with_reducible exact Below.refl _ _ | with_reducible refine Below.setCell ?_ (by first | omega | (simp; done) | (simp; omega)) _ | with_reducible refine bDrewN ?_ _ | with_reducible refine Below.drew ?_ | with_reducible refine Below.alloc ?_ (by first | omega | (simp; done) | (simp; omega)) _))⟩)
theorem keepAlarm {W W' : World} {p q i0 j0 i1 j1 i2 j2 i3 j3 i4 j4 : Nat} {a0 b0 a1 b1 a2 b2 a3 b3 a4 b4 : Value} (h0 : W.cell? ⟨p, i0, none⟩ = some a0) (h1 : W.cell? ⟨p, i1, none⟩ = some a1) (h2 : W.cell? ⟨p, i2, none⟩ = some a2) (h3 : W.cell? ⟨p, i3, none⟩ = some a3) (h4 : W.cell? ⟨p, i4, none⟩ = some a4) (g0 : W.cell? ⟨q, j0, none⟩ = some b0) (g1 : W.cell? ⟨q, j1, none⟩ = some b1) (g2 : W.cell? ⟨q, j2, none⟩ = some b2) (g3 : W.cell? ⟨q, j3, none⟩ = some b3) (g4 : W.cell? ⟨q, j4, none⟩ = some b4) (hp : p < W.heap.size) (hq : q < W.heap.size) (hb : Below W.heap.size W W') :
    W'.cell? ⟨p, i0, none⟩ = some a0 ∧ W'.cell? ⟨p, i1, none⟩ = some a1 ∧ W'.cell? ⟨p, i2, none⟩ = some a2 ∧ W'.cell? ⟨p, i3, none⟩ = some a3 ∧ W'.cell? ⟨p, i4, none⟩ = some a4 ∧ W'.cell? ⟨q, j0, none⟩ = some b0 ∧ W'.cell? ⟨q, j1, none⟩ = some b1 ∧ W'.cell? ⟨q, j2, none⟩ = some b2 ∧ W'.cell? ⟨q, j3, none⟩ = some b3 ∧ W'.cell? ⟨q, j4, none⟩ = some b4 :=
  ⟨(hb.cell (p := ⟨p, i0, none⟩) hp).trans h0, (hb.cell (p := ⟨p, i1, none⟩) hp).trans h1, (hb.cell (p := ⟨p, i2, none⟩) hp).trans h2, (hb.cell (p := ⟨p, i3, none⟩) hp).trans h3, (hb.cell (p := ⟨p, i4, none⟩) hp).trans h4, (hb.cell (p := ⟨q, j0, none⟩) hq).trans g0, (hb.cell (p := ⟨q, j1, none⟩) hq).trans g1, (hb.cell (p := ⟨q, j2, none⟩) hq).trans g2, (hb.cell (p := ⟨q, j3, none⟩) hq).trans g3, (hb.cell (p := ⟨q, j4, none⟩) hq).trans g4⟩
set_option maxRecDepth 20000 in
set_option maxHeartbeats 2000000 in
theorem eqAlarmS_any (s t : Option Addr) (n c d : Nat) (V : Nat → Int × Int × Int × Bool × Int) (w : World) (hn : (n : Int) ≤ 1048576) (HR : Hid (RowAlarm w s n V)) (HT : Hid (RowAlarm w t n V)) :
    Calls Try.prog 56 #[.slice s n c, .slice t n d] w fun e w' => e = .returned (.bool true) ∧ Below w.heap.size w w' := by
  go_enter Try.func56, Try.ntmps56
  go_wp2_with fail
  go_loopw [5] (fun i wr => ∃ k : Nat, k ≤ n ∧ i = .int .i64 k ∧ Below w.heap.size w wr) (fun i _ => n - (intOf i).toNat)
  case atStart => exact ⟨0, Nat.zero_le _, rfl, Below.refl _ _⟩
  case round =>
    obtain ⟨k, hk, rfl, hB⟩ := hrel
    by_cases h1 : k < n
    · obtain ⟨g, o, rfl, hg, c0, c1, c2, c3, c4⟩ := HR.out k h1
      obtain ⟨p, q, rfl, hp, d0, d1, d2, d3, d4⟩ := HT.out k h1
      have u0 := (hB.cell (p := ⟨g, o + k * 5, none⟩) hg).trans c0
      have u1 := (hB.cell (p := ⟨g, o + k * 5 + 1, none⟩) hg).trans c1
      have u2 := (hB.cell (p := ⟨g, o + k * 5 + 2, none⟩) hg).trans c2
      have u3 := (hB.cell (p := ⟨g, o + k * 5 + 3, none⟩) hg).trans c3
      have u4 := (hB.cell (p := ⟨g, o + k * 5 + 4, none⟩) hg).trans c4
      have v0 := (hB.cell (p := ⟨p, q + k * 5, none⟩) hp).trans d0
      have v1 := (hB.cell (p := ⟨p, q + k * 5 + 1, none⟩) hp).trans d1
      have v2 := (hB.cell (p := ⟨p, q + k * 5 + 2, none⟩) hp).trans d2
      have v3 := (hB.cell (p := ⟨p, q + k * 5 + 3, none⟩) hp).trans d3
      have v4 := (hB.cell (p := ⟨p, q + k * 5 + 4, none⟩) hp).trans d4
      have k1 : (k : Int) < (n : Int) := by omega
      have zg : g < wr.heap.size := Nat.lt_of_lt_of_le hg hB.size
      have zp : p < wr.heap.size := Nat.lt_of_lt_of_le hp hB.size
      have HB : Hid (Below w.heap.size w wr) := hB
      clear hB c0 d0 c1 d1 c2 d2 c3 d3 c4 d4 hg hp
      go_wp2_with fail
      go_region_held3 (fun w' => w'.cell? ⟨g, o + k * 5, none⟩ = some (.int .i64 ((V k).1)) ∧ w'.cell? ⟨g, o + k * 5 + 1, none⟩ = some (.int .i64 ((V k).2.1)) ∧ w'.cell? ⟨g, o + k * 5 + 2, none⟩ = some (.int .i64 ((V k).2.2.1)) ∧ w'.cell? ⟨g, o + k * 5 + 3, none⟩ = some (.bool ((V k).2.2.2.1)) ∧ w'.cell? ⟨g, o + k * 5 + 4, none⟩ = some (.int .i64 ((V k).2.2.2.2)) ∧ w'.cell? ⟨p, q + k * 5, none⟩ = some (.int .i64 ((V k).1)) ∧ w'.cell? ⟨p, q + k * 5 + 1, none⟩ = some (.int .i64 ((V k).2.1)) ∧ w'.cell? ⟨p, q + k * 5 + 2, none⟩ = some (.int .i64 ((V k).2.2.1)) ∧ w'.cell? ⟨p, q + k * 5 + 3, none⟩ = some (.bool ((V k).2.2.2.1)) ∧ w'.cell? ⟨p, q + k * 5 + 4, none⟩ = some (.int .i64 ((V k).2.2.2.2))) (first | (refine keepAlarm u0 u1 u2 u3 u4 v0 v1 v2 v3 v4 zg zp ?_; exact (by repeat (first | with_reducible exact Below.refl _ _ | with_reducible exact B3 | with_reducible refine Below.setCell ?_ (by first | omega | (simp; done) | (simp; omega)) _ | with_reducible refine bDrewN ?_ _ | with_reducible refine Below.drew ?_ | with_reducible refine Below.alloc ?_ (by first | omega | (simp; done) | (simp; omega)) _)))) (first
        | (go_at_call 85; refine (eqAlarm_any _ _ _ _ _ _).mono ?_; rintro r w3 ⟨rfl, h3⟩; have B3 : Below wr.heap.size wr w3 := Below.trans (by repeat (first | with_reducible exact Below.refl _ _ | with_reducible refine Below.setCell ?_ (by first | omega | (simp; done) | (simp; omega)) _ | with_reducible refine bDrewN ?_ _ | with_reducible refine Below.drew ?_ | with_reducible refine Below.alloc ?_ (by first | omega | (simp; done) | (simp; omega)) _)) (h3.mono (by first | omega | (simp; done) | (simp; omega)))))
      all_goals
        have B4 : Below w.heap.size w w3 := HB.out.trans (B3.mono HB.out.size)
        go_wp2
        go_round
        case rel => exact ⟨k + 1, by omega, by go_num, (by repeat (first | with_reducible exact Below.refl _ _ | with_reducible exact B4 | with_reducible refine Below.setCell ?_ (by first | omega | (simp; done) | (simp; omega)) _ | with_reducible refine bDrewN ?_ _ | with_reducible refine Below.drew ?_ | with_reducible refine Below.alloc ?_ (by first | omega | (simp; done) | (simp; omega)) _))⟩
        case measure => simp [intOf]; omega
    · obtain rfl : k = n := by omega
      go_wp2
      go_ret
      exact ⟨rfl, (by repeat (first | with_reducible exact Below.refl _ _ | with_reducible exact hB | with_reducible refine Below.setCell ?_ (by first | omega | (simp; done) | (simp; omega)) _ | with_reducible refine bDrewN ?_ _ | with_reducible refine Below.drew ?_ | with_reducible refine Below.alloc ?_ (by first | omega | (simp; done) | (simp; omega)) _))⟩

/-- THE LIST OPENED. -/
theorem open_AlarmS {H : Type} {enc : TypeId × Value → H} {w : World} {b0 : Nat} {t e : TypeId} {f0 f1 f2 f3 f4 : Field} {v : Value} {d : DataW H} {ps : List MemPlace} {sp : Nat → Bool} {held : Bool} (ht : Try.prog.underlying t = some (.slice e)) (he : Try.prog.underlying e = some (.struct #[f0, f1, f2, f3, f4]))
    (ce : Try.prog.cellsOf e = 5) (o0 : f0.offset = 0) (o1 : f1.offset = 1) (o2 : f2.offset = 2) (o3 : f3.offset = 3) (o4 : f4.offset = 4) (c0 : Try.prog.cellsOf f0.type = 1) (c1 : Try.prog.cellsOf f1.type = 1) (c2 : Try.prog.cellsOf f2.type = 1) (c3 : Try.prog.cellsOf f3.type = 1) (c4 : Try.prog.cellsOf f4.type = 1) (i0 : Try.prog.underlying f0.type = some (.int .i64)) (i1 : Try.prog.underlying f1.type = some (.int .i64)) (i2 : Try.prog.underlying f2.type = some (.int .i64)) (i3 : Try.prog.underlying f3.type = some (.bool)) (i4 : Try.prog.underlying f4.type = some (.int .i64))
    (hv : Value.okWide Try.prog w .any b0 t v) (h : DataW.Trod enc Try.prog w 0 sp held t v d ps) : ∃ s n c V, v = .slice s n c ∧ n ≤ 9223372036854775807 ∧ RowAlarm w s n V := by
  have hsl : ∃ s n c, v = .slice s n c := by
    simp only [Value.okWide, ht, Cell.okWide] at hv
    cases v <;> simp_all [Cell.ok]
  obtain ⟨s, n, c, rfl⟩ := hsl
  obtain ⟨fuel, hf⟩ := h
  have hf' : DataW.trod enc Try.prog w 0 sp held fuel t [.slice s n c] = some (d, ps) := hf
  rcases Go.Deep.open_slice ht hf' with ⟨e1, _⟩ | ⟨a, len, cap, m, k, D, Pl, e1, _, hl, hm, hmm, _, hx⟩
  · simp only [List.cons.injEq, and_true, Value.slice.injEq] at e1
    obtain ⟨rfl, rfl, rfl⟩ := e1
    exact ⟨none, 0, 0, fun _ => (0, 0, 0, false, 0), rfl, by omega, fun j hj => by omega⟩
  · simp only [List.cons.injEq, and_true, Value.slice.injEq] at e1
    obtain ⟨rfl, rfl, rfl⟩ := e1
    have hsp := slice_spot ht hv
    obtain ⟨b, o, spot⟩ := a
    simp only at hsp
    subst hsp
    have hle : n ≤ m := by rw [hmm]; split <;> omega
    have each : ∀ i, i < n → ∃ z : Int × Int × Int × Bool × Int, w.cell? ⟨b, o + i * 5, none⟩ = some (.int .i64 (z.1)) ∧ w.cell? ⟨b, o + (i * 5 + 1), none⟩ = some (.int .i64 (z.2.1)) ∧ w.cell? ⟨b, o + (i * 5 + 2), none⟩ = some (.int .i64 (z.2.2.1)) ∧ w.cell? ⟨b, o + (i * 5 + 3), none⟩ = some (.bool (z.2.2.2.1)) ∧ w.cell? ⟨b, o + (i * 5 + 4), none⟩ = some (.int .i64 (z.2.2.2.2)) := by
      intro i hi
      obtain ⟨cs', h1, h2⟩ := hx i (by omega)
      rw [ce] at h1
      obtain ⟨_, hlen, hcell⟩ := World.cells?_some h1
      obtain ⟨xs, k', hk, hxy, _, hxl, hf⟩ := DataW.trod_struct he h2
      match xs, hxl, cs', hlen with
      | [y0, y1, y2, y3, y4], _, [v0, v1, v2, v3, v4], _ =>
        have g0 := hf 0 f0 rfl
        have g1 := hf 1 f1 rfl
        have g2 := hf 2 f2 rfl
        have g3 := hf 3 f3 rfl
        have g4 := hf 4 f4 rfl
        simp [o0, c0, o1, c1, o2, c2, o3, c3, o4, c4] at g0 g1 g2 g3 g4
        have e0 := hcell 0 (by omega)
        have e1 := hcell 1 (by omega)
        have e2 := hcell 2 (by omega)
        have e3 := hcell 3 (by omega)
        have e4 := hcell 4 (by omega)
        rw [Go.Deep.add_add, addr_add] at e0 e1 e2 e3 e4
        obtain ⟨z0, q0, _, _⟩ := DataW.trod_int i0 g0
        obtain ⟨z1, q1, _, _⟩ := DataW.trod_int i1 g1
        obtain ⟨z2, q2, _, _⟩ := DataW.trod_int i2 g2
        obtain ⟨z3, q3, _, _⟩ := DataW.trod_bool i3 g3
        obtain ⟨z4, q4, _, _⟩ := DataW.trod_int i4 g4
        simp only [List.cons.injEq, and_true] at q0 q1 q2 q3 q4
        subst q0 q1 q2 q3 q4
        exact ⟨(z0, z1, z2, z3, z4), by simpa using e0, by simpa using e1, by simpa using e2, by simpa using e3, by simpa using e4⟩
    obtain ⟨f, hfn⟩ := Go.Deep.choose_lt each
    refine ⟨some ⟨b, o, none⟩, n, c, f, rfl, ?_, fun j hj => ?_⟩
    · have : maxLen = 9223372036854775807 := by decide
      omega
    · obtain ⟨h0, h1, h2, h3, h4⟩ := hfn j hj
      exact ⟨b, o, rfl, cell_lt h0, by simpa [Nat.add_assoc] using h0, by simpa [Nat.add_assoc] using h1, by simpa [Nat.add_assoc] using h2, by simpa [Nat.add_assoc] using h3, by simpa [Nat.add_assoc] using h4⟩
end Go.Proofs.Ytlbbdifmjdpfiaa
