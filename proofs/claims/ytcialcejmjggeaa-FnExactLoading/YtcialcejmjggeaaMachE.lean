/-
What is proved: what the law's own helpers do with lists of machines: their count, whether two are the same; a list of structs of 4 int64s that is handed in, opened.
-/
import Derived.Test.YtcialcejmjggeaaMach
import Derived.Deep.Slices
namespace Go.Proofs.Ytcialcejmjggeaa
set_option maxRecDepth 40000
open Go.ChangeShapes Go.WideShapes Go.ChangeAt Go.RowKit
set_option linter.unusedVariables false

set_option maxHeartbeats 400000 in
theorem szMachineS_on (s : Option Addr) (n c : Nat) (l : Int) (w : World) (h0 : 0 ≤ l) (h1 : l ≤ 1048576) (hn : (n : Int) ≤ l) : Calls Try.prog 8 #[.slice s n c, .int .i64 l] w fun e w' => e = .returned (.int .i64 (l - (n : Int))) ∧ w' = w := by
  go_enter Try.func8, Try.ntmps8
  go_wp2
  go_ret
  exact ⟨ret_int rfl, rfl⟩
set_option maxHeartbeats 400000 in
theorem szMachineS_off (s : Option Addr) (n c : Nat) (l : Int) (w : World) (h0 : 0 ≤ l) (h1 : l ≤ 1048576) (hn : l < (n : Int)) (hn2 : (n : Int) ≤ 9223372036854775807) : Calls Try.prog 8 #[.slice s n c, .int .i64 l] w fun e w' => e = .returned (.int .i64 (-1)) ∧ w' = w := by
  go_enter Try.func8, Try.ntmps8
  go_wp2
  go_ret
  exact ⟨ret_int rfl, rfl⟩
set_option maxHeartbeats 400000 in
theorem eqMachine_any (x0 x1 x2 x3 : Int) (w : World) : Calls Try.prog 33 #[.agg #[.int .i64 x0, .int .i64 x1, .int .i64 x2, .int .i64 x3], .agg #[.int .i64 x0, .int .i64 x1, .int .i64 x2, .int .i64 x3]] w fun r w' => r = .returned (.bool true) ∧ Below w.heap.size w w' := by
  go_enter Try.func33, Try.ntmps33
  go_wp2
  go_ret
  exact ⟨rfl, (by repeat (first | with_reducible exact Below.refl _ _ | with_reducible refine Below.setCell ?_ (by first | omega | (simp; done) | (simp; omega)) _ | with_reducible refine bDrewN ?_ _ | with_reducible refine Below.drew ?_ | with_reducible refine Below.alloc ?_ (by first | omega | (simp; done) | (simp; omega)) _))⟩
theorem keepMachine {W W' : World} {p q i0 j0 i1 j1 i2 j2 i3 j3 : Nat} {a0 b0 a1 b1 a2 b2 a3 b3 : Value} (h0 : W.cell? ⟨p, i0, none⟩ = some a0) (h1 : W.cell? ⟨p, i1, none⟩ = some a1) (h2 : W.cell? ⟨p, i2, none⟩ = some a2) (h3 : W.cell? ⟨p, i3, none⟩ = some a3) (g0 : W.cell? ⟨q, j0, none⟩ = some b0) (g1 : W.cell? ⟨q, j1, none⟩ = some b1) (g2 : W.cell? ⟨q, j2, none⟩ = some b2) (g3 : W.cell? ⟨q, j3, none⟩ = some b3) (hp : p < W.heap.size) (hq : q < W.heap.size) (hb : Below W.heap.size W W') :
    W'.cell? ⟨p, i0, none⟩ = some a0 ∧ W'.cell? ⟨p, i1, none⟩ = some a1 ∧ W'.cell? ⟨p, i2, none⟩ = some a2 ∧ W'.cell? ⟨p, i3, none⟩ = some a3 ∧ W'.cell? ⟨q, j0, none⟩ = some b0 ∧ W'.cell? ⟨q, j1, none⟩ = some b1 ∧ W'.cell? ⟨q, j2, none⟩ = some b2 ∧ W'.cell? ⟨q, j3, none⟩ = some b3 :=
  ⟨(hb.cell (p := ⟨p, i0, none⟩) hp).trans h0, (hb.cell (p := ⟨p, i1, none⟩) hp).trans h1, (hb.cell (p := ⟨p, i2, none⟩) hp).trans h2, (hb.cell (p := ⟨p, i3, none⟩) hp).trans h3, (hb.cell (p := ⟨q, j0, none⟩) hq).trans g0, (hb.cell (p := ⟨q, j1, none⟩) hq).trans g1, (hb.cell (p := ⟨q, j2, none⟩) hq).trans g2, (hb.cell (p := ⟨q, j3, none⟩) hq).trans g3⟩

set_option maxRecDepth 20000 in
set_option maxHeartbeats 2000000 in
theorem eqMachineS_any (s t : Option Addr) (n c d : Nat) (V : Nat → Int) (w : World) (hn : (n : Int) ≤ 1048576) (HR : Hid (RowI w s (n * 4) V)) (HT : Hid (RowI w t (n * 4) V)) :
    Calls Try.prog 13 #[.slice s n c, .slice t n d] w fun e w' => e = .returned (.bool true) ∧ Below w.heap.size w w' := by
  go_enter Try.func13, Try.ntmps13
  go_wp2_with fail
  go_loopw [5] (fun i wr => ∃ k : Nat, k ≤ n ∧ i = .int .i64 k ∧ Below w.heap.size w wr) (fun i _ => n - (intOf i).toNat)
  case atStart => exact ⟨0, Nat.zero_le _, rfl, Below.refl _ _⟩
  case round =>
    obtain ⟨k, hk, rfl, hB⟩ := hrel
    by_cases h1 : k < n
    · obtain ⟨g, o, rfl, hg, c0⟩ := HR.out (k * 4) (by omega)
      obtain ⟨g', o', e', hg1, c1⟩ := HR.out (k * 4 + 1) (by omega)
      cases e'
      obtain ⟨g', o', e', hg2, c2⟩ := HR.out (k * 4 + 2) (by omega)
      cases e'
      obtain ⟨g', o', e', hg3, c3⟩ := HR.out (k * 4 + 3) (by omega)
      cases e'
      obtain ⟨p, q, rfl, hp, d0⟩ := HT.out (k * 4) (by omega)
      obtain ⟨p', q', e', hp1, d1⟩ := HT.out (k * 4 + 1) (by omega)
      cases e'
      obtain ⟨p', q', e', hp2, d2⟩ := HT.out (k * 4 + 2) (by omega)
      cases e'
      obtain ⟨p', q', e', hp3, d3⟩ := HT.out (k * 4 + 3) (by omega)
      cases e'
      have u0 : wr.cell? ⟨g, o + k * 4, none⟩ = some (.int .i64 (V (k * 4))) := (hB.cell (p := ⟨g, o + k * 4, none⟩) hg).trans c0
      have u1 : wr.cell? ⟨g, o + k * 4 + 1, none⟩ = some (.int .i64 (V (k * 4 + 1))) := (hB.cell (p := ⟨g, o + (k * 4 + 1), none⟩) hg).trans c1
      have u2 : wr.cell? ⟨g, o + k * 4 + 2, none⟩ = some (.int .i64 (V (k * 4 + 2))) := (hB.cell (p := ⟨g, o + (k * 4 + 2), none⟩) hg).trans c2
      have u3 : wr.cell? ⟨g, o + k * 4 + 3, none⟩ = some (.int .i64 (V (k * 4 + 3))) := (hB.cell (p := ⟨g, o + (k * 4 + 3), none⟩) hg).trans c3
      have v0 : wr.cell? ⟨p, q + k * 4, none⟩ = some (.int .i64 (V (k * 4))) := (hB.cell (p := ⟨p, q + k * 4, none⟩) hp).trans d0
      have v1 : wr.cell? ⟨p, q + k * 4 + 1, none⟩ = some (.int .i64 (V (k * 4 + 1))) := (hB.cell (p := ⟨p, q + (k * 4 + 1), none⟩) hp).trans d1
      have v2 : wr.cell? ⟨p, q + k * 4 + 2, none⟩ = some (.int .i64 (V (k * 4 + 2))) := (hB.cell (p := ⟨p, q + (k * 4 + 2), none⟩) hp).trans d2
      have v3 : wr.cell? ⟨p, q + k * 4 + 3, none⟩ = some (.int .i64 (V (k * 4 + 3))) := (hB.cell (p := ⟨p, q + (k * 4 + 3), none⟩) hp).trans d3
      have k1 : (k : Int) < (n : Int) := by omega
      have zg : g < wr.heap.size := Nat.lt_of_lt_of_le hg hB.size
      have zp : p < wr.heap.size := Nat.lt_of_lt_of_le hp hB.size
      have HB : Hid (Below w.heap.size w wr) := hB
      clear hB c0 d0 c1 d1 c2 d2 c3 d3 hg hp hg1 hp1 hg2 hp2 hg3 hp3
      go_wp2_with fail
      go_region_held3 (fun w' => w'.cell? ⟨g, o + k * 4, none⟩ = some (.int .i64 (V (k * 4))) ∧ w'.cell? ⟨g, o + k * 4 + 1, none⟩ = some (.int .i64 (V (k * 4 + 1))) ∧ w'.cell? ⟨g, o + k * 4 + 2, none⟩ = some (.int .i64 (V (k * 4 + 2))) ∧ w'.cell? ⟨g, o + k * 4 + 3, none⟩ = some (.int .i64 (V (k * 4 + 3))) ∧ w'.cell? ⟨p, q + k * 4, none⟩ = some (.int .i64 (V (k * 4))) ∧ w'.cell? ⟨p, q + k * 4 + 1, none⟩ = some (.int .i64 (V (k * 4 + 1))) ∧ w'.cell? ⟨p, q + k * 4 + 2, none⟩ = some (.int .i64 (V (k * 4 + 2))) ∧ w'.cell? ⟨p, q + k * 4 + 3, none⟩ = some (.int .i64 (V (k * 4 + 3)))) (first | (refine keepMachine u0 u1 u2 u3 v0 v1 v2 v3 zg zp ?_; exact (by repeat (first | with_reducible exact Below.refl _ _ | with_reducible exact B3 | with_reducible refine Below.setCell ?_ (by first | omega | (simp; done) | (simp; omega)) _ | with_reducible refine bDrewN ?_ _ | with_reducible refine Below.drew ?_ | with_reducible refine Below.alloc ?_ (by first | omega | (simp; done) | (simp; omega)) _)))) (first
        | (go_at_call 33; refine (eqMachine_any _ _ _ _ _).mono ?_; rintro r w3 ⟨rfl, h3⟩; have B3 : Below wr.heap.size wr w3 := Below.trans (by repeat (first | with_reducible exact Below.refl _ _ | with_reducible refine Below.setCell ?_ (by first | omega | (simp; done) | (simp; omega)) _ | with_reducible refine bDrewN ?_ _ | with_reducible refine Below.drew ?_ | with_reducible refine Below.alloc ?_ (by first | omega | (simp; done) | (simp; omega)) _)) (h3.mono (by first | omega | (simp; done) | (simp; omega)))))
      all_goals
        have B4 : Below w.heap.size w w3 := HB.out.trans (B3.mono HB.out.size)
        go_wp2
        go_round
        case rel => exact ⟨k + 1, by omega, by go_num, (by repeat (first | with_reducible exact Below.refl _ _ | with_reducible exact B4 | with_reducible refine Below.setCell ?_ (by first | omega | (simp; done) | (simp; omega)) _ | with_reducible refine bDrewN ?_ _ | with_reducible refine Below.drew ?_ | with_reducible refine Below.alloc ?_ (by first | omega | (simp; done) | (simp; omega)) _))⟩
        case measure => simp [intOf]; omega
    · obtain rfl : k = n := by omega
      go_wp2
      go_ret
      exact ⟨rfl, (by repeat (first | with_reducible exact Below.refl _ _ | with_reducible exact hB | with_reducible refine Below.setCell ?_ (by first | omega | (simp; done) | (simp; omega)) _ | with_reducible refine bDrewN ?_ _ | with_reducible refine Below.drew ?_ | with_reducible refine Below.alloc ?_ (by first | omega | (simp; done) | (simp; omega)) _))⟩

theorem addr_add (b o k : Nat) : (⟨b, o, none⟩ : Addr).add k = ⟨b, o + k, none⟩ := by
  unfold Addr.add
  split
  · rename_i h; subst h; rfl
  · rfl
theorem slice_spot {w : World} {b0 : Nat} {t e : TypeId} {a : Addr} {n c : Nat} (ht : Try.prog.underlying t = some (.slice e)) (hv : Value.okWide Try.prog w .any b0 t (.slice (some a) n c)) : a.spot = none := by
  simp only [Value.okWide, ht, Cell.okWide, Cell.ok] at hv
  exact hv.2.2.2.1
theorem cell_lt {w : World} {p : Addr} {v : Value} (h : w.cell? p = some v) : p.block < w.heap.size := by
  rcases Nat.lt_or_ge p.block w.heap.size with z | z
  · exact z
  · exfalso
    simp [World.cell?, Array.getElem?_eq_none z] at h
/-- THE LIST OPENED: structs of 4 int64s. -/
theorem open_rows4 {H : Type} {enc : TypeId × Value → H} {w : World} {b0 : Nat} {t e : TypeId} {f0 f1 f2 f3 : Field} {v : Value} {d : DataW H} {ps : List MemPlace} {sp : Nat → Bool} {held : Bool} (ht : Try.prog.underlying t = some (.slice e)) (he : Try.prog.underlying e = some (.struct #[f0, f1, f2, f3]))
    (ce : Try.prog.cellsOf e = 4) (o0 : f0.offset = 0) (o1 : f1.offset = 1) (o2 : f2.offset = 2) (o3 : f3.offset = 3) (c0 : Try.prog.cellsOf f0.type = 1) (c1 : Try.prog.cellsOf f1.type = 1) (c2 : Try.prog.cellsOf f2.type = 1) (c3 : Try.prog.cellsOf f3.type = 1) (i0 : Try.prog.underlying f0.type = some (.int .i64)) (i1 : Try.prog.underlying f1.type = some (.int .i64)) (i2 : Try.prog.underlying f2.type = some (.int .i64)) (i3 : Try.prog.underlying f3.type = some (.int .i64))
    (hv : Value.okWide Try.prog w .any b0 t v) (h : DataW.Trod enc Try.prog w 0 sp held t v d ps) : ∃ s n c V, v = .slice s n c ∧ n ≤ 9223372036854775807 ∧ RowI w s (n * 4) V := by
  have hsl : ∃ s n c, v = .slice s n c := by
    simp only [Value.okWide, ht, Cell.okWide] at hv
    cases v <;> simp_all [Cell.ok]
  obtain ⟨s, n, c, rfl⟩ := hsl
  obtain ⟨fuel, hf⟩ := h
  have hf' : DataW.trod enc Try.prog w 0 sp held fuel t [.slice s n c] = some (d, ps) := hf
  rcases Go.Deep.open_slice ht hf' with ⟨e1, _⟩ | ⟨a, len, cap, m, k, D, Pl, e1, _, hl, hm, hmm, _, hx⟩
  · simp only [List.cons.injEq, and_true, Value.slice.injEq] at e1
    obtain ⟨rfl, rfl, rfl⟩ := e1
    exact ⟨none, 0, 0, fun _ => 0, rfl, by omega, fun j hj => by omega⟩
  · simp only [List.cons.injEq, and_true, Value.slice.injEq] at e1
    obtain ⟨rfl, rfl, rfl⟩ := e1
    have hsp := slice_spot ht hv
    obtain ⟨b, o, spot⟩ := a
    simp only at hsp
    subst hsp
    have hle : n ≤ m := by rw [hmm]; split <;> omega
    have each : ∀ i, i < n → ∃ z : Int × Int × Int × Int, w.cell? ⟨b, o + i * 4, none⟩ = some (.int .i64 z.1) ∧ w.cell? ⟨b, o + (i * 4 + 1), none⟩ = some (.int .i64 z.2.1) ∧ w.cell? ⟨b, o + (i * 4 + 2), none⟩ = some (.int .i64 z.2.2.1) ∧ w.cell? ⟨b, o + (i * 4 + 3), none⟩ = some (.int .i64 z.2.2.2) := by
      intro i hi
      obtain ⟨cs', h1, h2⟩ := hx i (by omega)
      rw [ce] at h1
      obtain ⟨_, hlen, hcell⟩ := World.cells?_some h1
      obtain ⟨xs, k', hk, hxy, _, hxl, hf⟩ := DataW.trod_struct he h2
      match xs, hxl, cs', hlen with
      | [y0, y1, y2, y3], _, [v0, v1, v2, v3], _ =>
        have g0 := hf 0 f0 rfl
        have g1 := hf 1 f1 rfl
        have g2 := hf 2 f2 rfl
        have g3 := hf 3 f3 rfl
        simp [o0, c0, o1, c1, o2, c2, o3, c3] at g0 g1 g2 g3
        have e0 := hcell 0 (by omega)
        have e1 := hcell 1 (by omega)
        have e2 := hcell 2 (by omega)
        have e3 := hcell 3 (by omega)
        rw [Go.Deep.add_add, addr_add] at e0 e1 e2 e3
        obtain ⟨z0, q0, _, _⟩ := DataW.trod_int i0 g0
        obtain ⟨z1, q1, _, _⟩ := DataW.trod_int i1 g1
        obtain ⟨z2, q2, _, _⟩ := DataW.trod_int i2 g2
        obtain ⟨z3, q3, _, _⟩ := DataW.trod_int i3 g3
        simp only [List.cons.injEq, and_true] at q0 q1 q2 q3
        subst q0 q1 q2 q3
        exact ⟨(z0, z1, z2, z3), by simpa using e0, by simpa using e1, by simpa using e2, by simpa using e3⟩
    obtain ⟨f, hfn⟩ := Go.Deep.choose_lt each
    refine ⟨some ⟨b, o, none⟩, n, c, fun j => if j % 4 = 0 then (f (j / 4)).1 else if j % 4 = 1 then (f (j / 4)).2.1 else if j % 4 = 2 then (f (j / 4)).2.2.1 else (f (j / 4)).2.2.2, rfl, ?_, fun j hj => ?_⟩
    · have : maxLen = 9223372036854775807 := by decide
      omega
    · obtain ⟨h0, h1, h2, h3⟩ := hfn (j / 4) (by omega)
      refine ⟨b, o, rfl, cell_lt h0, ?_⟩
      show w.cell? ⟨b, o + j, none⟩ = some (.int .i64 (if j % 4 = 0 then (f (j / 4)).1 else if j % 4 = 1 then (f (j / 4)).2.1 else if j % 4 = 2 then (f (j / 4)).2.2.1 else (f (j / 4)).2.2.2))
      have hj : j % 4 = 0 ∨ j % 4 = 1 ∨ j % 4 = 2 ∨ j % 4 = 3 := by omega
      rcases hj with z | z | z | z
      · have q : j = j / 4 * 4 := by omega
        rw [← q] at h0
        simpa [z] using h0
      · have q : j = j / 4 * 4 + 1 := by omega
        rw [← q] at h1
        simpa [z] using h1
      · have q : j = j / 4 * 4 + 2 := by omega
        rw [← q] at h2
        simpa [z] using h2
      · have q : j = j / 4 * 4 + 3 := by omega
        rw [← q] at h3
        simpa [z] using h3
end Go.Proofs.Ytcialcejmjggeaa
