/-
What is proved: what the law's own helpers do with lists of acts: their count, whether two are the same; a list of structs of three int64s that is handed in, opened.
-/
import Derived.Test.YtjiojofgpdimaaaActs
import Derived.Deep.Slices
namespace Go.Proofs.Ytjiojofgpdimaaa
set_option maxRecDepth 40000
open Go.ChangeShapes Go.WideShapes Go.ChangeAt Go.RowKit
set_option linter.unusedVariables false

set_option maxHeartbeats 400000 in
theorem szActS_any (s : Option Addr) (n c : Nat) (w : World) (hn : (n : Int) ≤ 1048576) : Calls Try.prog 16 #[.slice s n c, .int .i64 1048576] w fun e w' => e = .returned (.int .i64 (1048576 - (n : Int))) ∧ w' = w := by
  go_enter Try.func16, Try.ntmps16
  go_wp2
  go_ret
  exact ⟨ret_int rfl, rfl⟩
set_option maxHeartbeats 400000 in
theorem szActS_far (s : Option Addr) (n c : Nat) (w : World) (hn : (1048576 : Int) < n) (hn' : (n : Int) ≤ 9223372036854775807) : Calls Try.prog 16 #[.slice s n c, .int .i64 1048576] w fun e w' => e = .returned (.int .i64 (-1)) ∧ w' = w := by
  go_enter Try.func16, Try.ntmps16
  go_wp2
  go_ret
  exact ⟨ret_int rfl, rfl⟩
set_option maxHeartbeats 400000 in
theorem eqAct_any (x y z : Int) (w : World) : Calls Try.prog 39 #[.agg #[.int .i64 x, .int .i64 y, .int .i64 z], .agg #[.int .i64 x, .int .i64 y, .int .i64 z]] w fun r w' => r = .returned (.bool true) ∧ Below w.heap.size w w' := by
  go_enter Try.func39, Try.ntmps39
  go_wp2
  go_ret
  exact ⟨rfl, (by repeat (first | with_reducible exact Below.refl _ _ | with_reducible refine Below.setCell ?_ (by first | omega | (simp; done) | (simp; omega)) _ | with_reducible refine bDrewN ?_ _ | with_reducible refine Below.drew ?_ | with_reducible refine Below.alloc ?_ (by first | omega | (simp; done) | (simp; omega)) _))⟩
theorem keepA {W W' : World} {p q i0 i1 i2 j0 j1 j2 : Nat} {a b c d e f : Value} (h0 : W.cell? ⟨p, i0, none⟩ = some a) (h1 : W.cell? ⟨p, i1, none⟩ = some b) (h2 : W.cell? ⟨p, i2, none⟩ = some c) (h3 : W.cell? ⟨q, j0, none⟩ = some d) (h4 : W.cell? ⟨q, j1, none⟩ = some e) (h5 : W.cell? ⟨q, j2, none⟩ = some f) (hp : p < W.heap.size) (hq : q < W.heap.size) (hb : Below W.heap.size W W') :
    W'.cell? ⟨p, i0, none⟩ = some a ∧ W'.cell? ⟨p, i1, none⟩ = some b ∧ W'.cell? ⟨p, i2, none⟩ = some c ∧ W'.cell? ⟨q, j0, none⟩ = some d ∧ W'.cell? ⟨q, j1, none⟩ = some e ∧ W'.cell? ⟨q, j2, none⟩ = some f :=
  ⟨(hb.cell (p := ⟨p, i0, none⟩) hp).trans h0, (hb.cell (p := ⟨p, i1, none⟩) hp).trans h1, (hb.cell (p := ⟨p, i2, none⟩) hp).trans h2, (hb.cell (p := ⟨q, j0, none⟩) hq).trans h3, (hb.cell (p := ⟨q, j1, none⟩) hq).trans h4, (hb.cell (p := ⟨q, j2, none⟩) hq).trans h5⟩

set_option maxRecDepth 20000 in
set_option maxHeartbeats 1000000 in
theorem eqActS_any (s t : Option Addr) (n c d : Nat) (V : Nat → Int) (w : World) (hn : (n : Int) ≤ 1048576) (HR : Hid (RowI w s (n * 3) V)) (HT : Hid (RowI w t (n * 3) V)) :
    Calls Try.prog 18 #[.slice s n c, .slice t n d] w fun e w' => e = .returned (.bool true) ∧ Below w.heap.size w w' := by
  go_enter Try.func18, Try.ntmps18
  go_wp2_with fail
  go_loopw [5] (fun i wr => ∃ k : Nat, k ≤ n ∧ i = .int .i64 k ∧ Below w.heap.size w wr) (fun i _ => n - (intOf i).toNat)
  case atStart => exact ⟨0, Nat.zero_le _, rfl, Below.refl _ _⟩
  case round =>
    obtain ⟨k, hk, rfl, hB⟩ := hrel
    by_cases h1 : k < n
    · obtain ⟨g, o, rfl, hg, c0⟩ := HR.out (k * 3) (by omega)
      obtain ⟨g', o', e', hg', c1⟩ := HR.out (k * 3 + 1) (by omega)
      cases e'
      obtain ⟨g', o', e', hg'', c2⟩ := HR.out (k * 3 + 2) (by omega)
      cases e'
      obtain ⟨p, q, rfl, hp, d0⟩ := HT.out (k * 3) (by omega)
      obtain ⟨p', q', e', hp', d1⟩ := HT.out (k * 3 + 1) (by omega)
      cases e'
      obtain ⟨p', q', e', hp'', d2⟩ := HT.out (k * 3 + 2) (by omega)
      cases e'
      have u0 : wr.cell? ⟨g, o + k * 3, none⟩ = some (.int .i64 (V (k * 3))) := (hB.cell (p := ⟨g, o + k * 3, none⟩) hg).trans c0
      have u1 : wr.cell? ⟨g, o + k * 3 + 1, none⟩ = some (.int .i64 (V (k * 3 + 1))) := (hB.cell (p := ⟨g, o + (k * 3 + 1), none⟩) hg).trans c1
      have u2 : wr.cell? ⟨g, o + k * 3 + 2, none⟩ = some (.int .i64 (V (k * 3 + 2))) := (hB.cell (p := ⟨g, o + (k * 3 + 2), none⟩) hg).trans c2
      have v0 : wr.cell? ⟨p, q + k * 3, none⟩ = some (.int .i64 (V (k * 3))) := (hB.cell (p := ⟨p, q + k * 3, none⟩) hp).trans d0
      have v1 : wr.cell? ⟨p, q + k * 3 + 1, none⟩ = some (.int .i64 (V (k * 3 + 1))) := (hB.cell (p := ⟨p, q + (k * 3 + 1), none⟩) hp).trans d1
      have v2 : wr.cell? ⟨p, q + k * 3 + 2, none⟩ = some (.int .i64 (V (k * 3 + 2))) := (hB.cell (p := ⟨p, q + (k * 3 + 2), none⟩) hp).trans d2
      have k1 : (k : Int) < (n : Int) := by omega
      have zg : g < wr.heap.size := Nat.lt_of_lt_of_le hg hB.size
      have zp : p < wr.heap.size := Nat.lt_of_lt_of_le hp hB.size
      have HB : Hid (Below w.heap.size w wr) := hB
      clear hB c0 c1 c2 d0 d1 d2 hg hg' hg'' hp hp' hp''
      go_wp2_with fail
      go_region_held3 (fun w' => w'.cell? ⟨g, o + k * 3, none⟩ = some (.int .i64 (V (k * 3))) ∧ w'.cell? ⟨g, o + k * 3 + 1, none⟩ = some (.int .i64 (V (k * 3 + 1))) ∧ w'.cell? ⟨g, o + k * 3 + 2, none⟩ = some (.int .i64 (V (k * 3 + 2))) ∧ w'.cell? ⟨p, q + k * 3, none⟩ = some (.int .i64 (V (k * 3))) ∧ w'.cell? ⟨p, q + k * 3 + 1, none⟩ = some (.int .i64 (V (k * 3 + 1))) ∧ w'.cell? ⟨p, q + k * 3 + 2, none⟩ = some (.int .i64 (V (k * 3 + 2)))) (first | (refine keepA u0 u1 u2 v0 v1 v2 zg zp ?_; exact (by repeat (first | with_reducible exact Below.refl _ _ | with_reducible exact B3 | with_reducible refine Below.setCell ?_ (by first | omega | (simp; done) | (simp; omega)) _ | with_reducible refine bDrewN ?_ _ | with_reducible refine Below.drew ?_ | with_reducible refine Below.alloc ?_ (by first | omega | (simp; done) | (simp; omega)) _)))) (first
        | (go_at_call 39; refine (eqAct_any _ _ _ _).mono ?_; rintro r w3 ⟨rfl, h3⟩; have B3 : Below wr.heap.size wr w3 := Below.trans (by repeat (first | with_reducible exact Below.refl _ _ | with_reducible refine Below.setCell ?_ (by first | omega | (simp; done) | (simp; omega)) _ | with_reducible refine bDrewN ?_ _ | with_reducible refine Below.drew ?_ | with_reducible refine Below.alloc ?_ (by first | omega | (simp; done) | (simp; omega)) _)) (h3.mono (by first | omega | (simp; done) | (simp; omega)))))
      all_goals
        have B4 : Below w.heap.size w w3 := HB.out.trans (B3.mono HB.out.size)
        go_wp2
        go_round
        case rel => exact ⟨k + 1, by omega, by go_num, (by repeat (first | with_reducible exact Below.refl _ _ | with_reducible exact B4 | with_reducible refine Below.setCell ?_ (by first | omega | (simp; done) | (simp; omega)) _ | with_reducible refine bDrewN ?_ _ | with_reducible refine Below.drew ?_ | with_reducible refine Below.alloc ?_ (by first | omega | (simp; done) | (simp; omega)) _))⟩
        case measure => simp [intOf]; omega
    · obtain rfl : k = n := by omega
      go_wp2
      go_ret
      exact ⟨rfl, (by repeat (first | with_reducible exact Below.refl _ _ | with_reducible exact hB | with_reducible refine Below.setCell ?_ (by first | omega | (simp; done) | (simp; omega)) _ | with_reducible refine bDrewN ?_ _ | with_reducible refine Below.drew ?_ | with_reducible refine Below.alloc ?_ (by first | omega | (simp; done) | (simp; omega)) _))⟩

theorem addr_add (b o k : Nat) : (⟨b, o, none⟩ : Addr).add k = ⟨b, o + k, none⟩ := by
  unfold Addr.add
  split
  · rename_i h; subst h; rfl
  · rfl
theorem slice_spot {w : World} {b0 : Nat} {t e : TypeId} {a : Addr} {n c : Nat} (ht : Try.prog.underlying t = some (.slice e)) (hv : Value.okWide Try.prog w .any b0 t (.slice (some a) n c)) : a.spot = none := by
  simp only [Value.okWide, ht, Cell.okWide, Cell.ok] at hv
  exact hv.2.2.2.1
theorem cell_lt {w : World} {p : Addr} {v : Value} (h : w.cell? p = some v) : p.block < w.heap.size := by
  rcases Nat.lt_or_ge p.block w.heap.size with z | z
  · exact z
  · exfalso
    simp [World.cell?, Array.getElem?_eq_none z] at h
/-- THE LIST OPENED: structs of three int64s. -/
theorem open_triples {H : Type} {enc : TypeId × Value → H} {w : World} {b0 : Nat} {t e : TypeId} {f0 f1 f2 : Field} {v : Value} {d : DataW H} {ps : List MemPlace} {sp : Nat → Bool} {held : Bool} (ht : Try.prog.underlying t = some (.slice e)) (he : Try.prog.underlying e = some (.struct #[f0, f1, f2]))
    (ce : Try.prog.cellsOf e = 3) (o0 : f0.offset = 0) (o1 : f1.offset = 1) (o2 : f2.offset = 2) (c0 : Try.prog.cellsOf f0.type = 1) (c1 : Try.prog.cellsOf f1.type = 1) (c2 : Try.prog.cellsOf f2.type = 1) (i0 : Try.prog.underlying f0.type = some (.int .i64)) (i1 : Try.prog.underlying f1.type = some (.int .i64)) (i2 : Try.prog.underlying f2.type = some (.int .i64))
    (hv : Value.okWide Try.prog w .any b0 t v) (h : DataW.Trod enc Try.prog w 0 sp held t v d ps) : ∃ s n c V, v = .slice s n c ∧ n ≤ 9223372036854775807 ∧ RowI w s (n * 3) V := by
  have hsl : ∃ s n c, v = .slice s n c := by
    simp only [Value.okWide, ht, Cell.okWide] at hv
    cases v <;> simp_all [Cell.ok]
  obtain ⟨s, n, c, rfl⟩ := hsl
  obtain ⟨fuel, hf⟩ := h
  have hf' : DataW.trod enc Try.prog w 0 sp held fuel t [.slice s n c] = some (d, ps) := hf
  rcases Go.Deep.open_slice ht hf' with ⟨e1, _⟩ | ⟨a, len, cap, m, k, D, Pl, e1, _, hl, hm, hmm, _, hx⟩
  · simp only [List.cons.injEq, and_true, Value.slice.injEq] at e1
    obtain ⟨rfl, rfl, rfl⟩ := e1
    exact ⟨none, 0, 0, fun _ => 0, rfl, by omega, fun j hj => by omega⟩
  · simp only [List.cons.injEq, and_true, Value.slice.injEq] at e1
    obtain ⟨rfl, rfl, rfl⟩ := e1
    have hsp := slice_spot ht hv
    obtain ⟨b, o, spot⟩ := a
    simp only at hsp
    subst hsp
    have hle : n ≤ m := by rw [hmm]; split <;> omega
    have each : ∀ i, i < n → ∃ z : Int × Int × Int, w.cell? ⟨b, o + i * 3, none⟩ = some (.int .i64 z.1) ∧ w.cell? ⟨b, o + (i * 3 + 1), none⟩ = some (.int .i64 z.2.1) ∧ w.cell? ⟨b, o + (i * 3 + 2), none⟩ = some (.int .i64 z.2.2) := by
      intro i hi
      obtain ⟨cs', h1, h2⟩ := hx i (by omega)
      rw [ce] at h1
      obtain ⟨_, hlen, hcell⟩ := World.cells?_some h1
      obtain ⟨xs, k', hk, hxy, _, hxl, hf⟩ := DataW.trod_struct he h2
      match xs, hxl, cs', hlen with
      | [y0, y1, y2], _, [v0, v1, v2], _ =>
        have g0 := hf 0 f0 rfl
        have g1 := hf 1 f1 rfl
        have g2 := hf 2 f2 rfl
        simp [o0, o1, o2, c0, c1, c2] at g0 g1 g2
        have e0 := hcell 0 (by omega)
        have e1 := hcell 1 (by omega)
        have e2 := hcell 2 (by omega)
        rw [Go.Deep.add_add, addr_add] at e0 e1 e2
        obtain ⟨z0, q0, _, _⟩ := DataW.trod_int i0 g0
        obtain ⟨z1, q1, _, _⟩ := DataW.trod_int i1 g1
        obtain ⟨z2, q2, _, _⟩ := DataW.trod_int i2 g2
        simp only [List.cons.injEq, and_true] at q0 q1 q2
        subst q0 q1 q2
        exact ⟨(z0, z1, z2), by simpa using e0, by simpa using e1, by simpa using e2⟩
    obtain ⟨f, hfn⟩ := Go.Deep.choose_lt each
    refine ⟨some ⟨b, o, none⟩, n, c, fun j => if j % 3 = 0 then (f (j / 3)).1 else if j % 3 = 1 then (f (j / 3)).2.1 else (f (j / 3)).2.2, rfl, ?_, fun j hj => ?_⟩
    · have : maxLen = 9223372036854775807 := by decide
      omega
    · obtain ⟨h0, h1, h2⟩ := hfn (j / 3) (by omega)
      refine ⟨b, o, rfl, cell_lt h0, ?_⟩
      show w.cell? ⟨b, o + j, none⟩ = some (.int .i64 (if j % 3 = 0 then (f (j / 3)).1 else if j % 3 = 1 then (f (j / 3)).2.1 else (f (j / 3)).2.2))
      by_cases z : j % 3 = 0
      · rw [if_pos z]
        have : j = j / 3 * 3 := by omega
        rw [← this] at h0
        exact h0
      · rw [if_neg z]
        by_cases z' : j % 3 = 1
        · rw [if_pos z']
          have : j = j / 3 * 3 + 1 := by omega
          rw [← this] at h1
          exact h1
        · rw [if_neg z']
          have : j = j / 3 * 3 + 2 := by omega
          rw [← this] at h2
          exact h2
end Go.Proofs.Ytjiojofgpdimaaa
