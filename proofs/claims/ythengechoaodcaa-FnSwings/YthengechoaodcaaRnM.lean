/-
What is proved: the program's stack behind a pointer: laid on, looked at, cut.
-/
import Derived.Test.YthengechoaodcaaRnB
import Derived.Deep.RegionHeldLaw
import Derived.RegionTactic
import Derived.BigQuiet
import Derived.Deep.AppendLies
namespace Go.Proofs.Ythengechoaodcaa
set_option maxRecDepth 40000
open Go.ChangeShapes Go.WideShapes Go.ChangeAt Go.RowKit
set_option linter.unusedVariables false
set_option linter.unusedSimpArgs false

/-- Nothing has turned but the block p and blocks of int64s from B on. -/
def Fr (p B : Nat) (w w' : World) : Prop := w'.os = w.os ∧ w'.tape = w.tape ∧ w'.output = w.output ∧ w.heap.size ≤ w'.heap.size ∧ ∀ k, k < w.heap.size → k ≠ p → w'.heap[k]? = w.heap[k]? ∨ ((∃ cur, w.heap[k]? = some (.cells cur 2 (0, 0))) ∧ B ≤ k)
theorem Fr.refl (p B : Nat) (w : World) : Fr p B w w := ⟨rfl, rfl, rfl, Nat.le_refl _, fun _ _ _ => .inl rfl⟩
theorem Fr.trans {p B : Nat} {a b c : World} (h : Fr p B a b) (k : Fr p B b c) : Fr p B a c := by
  obtain ⟨h1, h2, h3, h4, h5⟩ := h
  obtain ⟨k1, k2, k3, k4, k5⟩ := k
  refine ⟨k1.trans h1, k2.trans h2, k3.trans h3, Nat.le_trans h4 k4, fun i hi hp => ?_⟩
  rcases h5 i hi hp with q | q
  · rcases k5 i (by omega) hp with r | ⟨⟨cur, r⟩, rb⟩
    · exact .inl (r.trans q)
    · exact .inr ⟨⟨cur, q.symm.trans r⟩, rb⟩
  · exact .inr q
theorem Fr.of {p B : Nat} {w w' : World} (h : Below w.heap.size w w') : Fr p B w w' := ⟨h.os, h.tape, h.output, h.size, fun k hk _ => .inl (h.block k hk)⟩
theorem Fr.beside {p B : Nat} {w w' : World} (h : Beside p w w') : Fr p B w w' := ⟨h.1, h.2.1, h.2.2.1, h.2.2.2.1, fun k hk hp => .inl (h.2.2.2.2 k hk hp)⟩
theorem Fr.grown {p B : Nat} {w w' : World} {v : Value} {l : List Int} (S : StkO B w v l) (h : w.grownBy w' v.ownBlock) : Fr p B w w' := by
  refine ⟨h.os, h.tape, h.output, h.size, fun k hk hp => ?_⟩
  by_cases q : some k = v.ownBlock
  · rcases S with ⟨rfl, _⟩ | ⟨g, o, cap, cur, rfl, h1, h2, _⟩
    · cases q
    · cases q
      exact .inr ⟨⟨cur, h2⟩, h1⟩
  · exact .inl (h.block k hk q)
theorem Fr.below {p B : Nat} {w w' : World} {D : Nat} (h : Fr p B w w') (hp : D ≤ p) (hB : D ≤ B) (hD : D ≤ w.heap.size) : Below D w w' := ⟨h.1, h.2.1, h.2.2.1, h.2.2.2.1, fun k hk => by
  rcases h.2.2.2.2 k (by omega) (by omega) with q | q
  · exact q
  · omega⟩
theorem Fr.swing {p B : Nat} {w w' : World} (h : Fr p B w w') {k : Nat} {cur : Array Value} (hk : w.heap[k]? = some (.cells cur 36 (0, 0))) (hp : k ≠ p) : w'.heap[k]? = some (.cells cur 36 (0, 0)) := by
  rcases h.2.2.2.2 k (Array.getElem?_eq_some_iff.1 hk).1 hp with q | ⟨⟨c, q⟩, _⟩
  · exact q.trans hk
  · rw [hk] at q
    cases q
theorem Fr.own {p B base s n : Nat} {w w' : World} {v : Value} {xs : List Value} (h : Fr p B w w') (ho : w.ownsRow base 36 s v n xs) (hp : p < base) : w'.ownsRow base 36 s v n xs := by
  refine ⟨ho.1, ?_⟩
  rcases ho.2 with q | ⟨g, cap, cur, e1, hb, hg, r⟩
  · exact .inl q
  · exact .inr ⟨g, cap, cur, e1, hb, h.swing hg (by omega), r⟩
/-- The stack behind its pointer. -/
def LfA (p B : Nat) (W : World) (l : List Int) : Prop := p < B ∧ B ≤ W.heap.size ∧ (∀ o, W.frozen? ⟨p, o, none⟩ = false) ∧ ∃ v, W.cell? ⟨p, 0, none⟩ = some v ∧ StkO B W v l
theorem LfA.below {p B : Nat} {W W' : World} {l : List Int} (h : LfA p B W l) (hb : Below W.heap.size W W') : LfA p B W' l := by
  obtain ⟨h1, h2, h3, v, h4, h5⟩ := h
  exact ⟨h1, Nat.le_trans h2 hb.size, fun o => (hb.frozen (p := ⟨p, o, none⟩) (Nat.lt_of_lt_of_le h1 h2)).trans (h3 o), v, (hb.cell (p := ⟨p, 0, none⟩) (Nat.lt_of_lt_of_le h1 h2)).trans h4, h5.below hb⟩
theorem LfA.grown {p B base s n : Nat} {W W' : World} {l : List Int} {v : Value} {xs : List Value} (h : LfA p B W l) (ho : W.ownsRow base 36 s v n xs) (hp : p < base) (hg : W.grownBy W' v.ownBlock) : LfA p B W' l := by
  obtain ⟨h1, h2, h3, u, h4, h5⟩ := h
  have e : W'.heap[p]? = W.heap[p]? := hg.block p (by omega) (fun q => by have := own_block ho p q.symm; omega)
  exact ⟨h1, Nat.le_trans h2 hg.size, fun o => (World.frozen?_of_block (w := W) (a := ⟨p, o, none⟩) e).trans (h3 o), u, (World.cell?_of_block (w := W) (a := ⟨p, 0, none⟩) e).trans h4, h5.other ho (by decide) hg⟩
theorem LfA.row {p B : Nat} {W : World} {l : List Int} (h : LfA p B W l) : ∃ s cap, W.cell? ⟨p, 0, none⟩ = some (.slice s l.length cap) ∧ l.length ≤ cap ∧ RowI W s l.length (nthI l) := by
  obtain ⟨h1, h2, h3, v, h4, h5⟩ := h
  obtain ⟨s, cap, rfl, hc, hr⟩ := h5.row
  exact ⟨s, cap, h4, hc, hr⟩
theorem LfA.set {p B : Nat} {W : World} {l l2 : List Int} {v : Value} (h : LfA p B W l) (hs : StkO B W v l2) : LfA p B (W.setCell ⟨p, 0, none⟩ v) l2 := by
  obtain ⟨h1, h2, h3, u, h4, h5⟩ := h
  refine ⟨h1, by simpa using h2, fun o => by simp [go_sem, h3], v, by simp [go_sem, h4], hs.beside (Beside.setCell p W 0 v) h1⟩
theorem LfA.put {p B : Nat} {W : World} {l2 : List Int} {v u : Value} (h1 : p < B) (h2 : B ≤ W.heap.size) (h3 : ∀ o, W.frozen? ⟨p, o, none⟩ = false) (h4 : W.cell? ⟨p, 0, none⟩ = some u) (hs : StkO B W v l2) : LfA p B (W.setCell ⟨p, 0, none⟩ v) l2 :=
  ⟨h1, by simpa using h2, fun o => by simp [go_sem, h3], v, by simp [go_sem, h4], hs.beside (Beside.setCell p W 0 v) h1⟩
theorem store_svR : ∀ (W : World) (a : Addr) (s : Option Addr) (n c : Nat), (W.cell? a).isSome = true → W.frozen? a = false → (store a (.slice s n c)).run Try.prog W = .ok () (W.setCell a (.slice s n c)) := fun W a s n c h hf => by
  obtain ⟨u, hu⟩ := Option.isSome_iff_exists.1 h
  rw [run_store Try.prog W a _ _ rfl, hu]
  simp [hf]
set_option maxHeartbeats 1000000 in
theorem stkSize_any (p B : Nat) (l : List Int) (w : World) (HL : Hid (LfA p B w l)) : Calls Try.prog 39 #[.pointer (some ⟨p, 0, none⟩)] w fun e w' => e = .returned (.int .i64 l.length) ∧ w' = w := by
  obtain ⟨s, cap, c0, -, -⟩ := HL.out.row
  go_enter Try.func39, Try.ntmps39
  go_wp2
  go_ret
  exact ⟨rfl, rfl⟩
set_option maxRecDepth 20000 in
set_option maxHeartbeats 4000000 in
theorem fromTop_any (p B : Nat) (l : List Int) (d m : Nat) (w : World) (hd : m + d + 1 = l.length) (hl : l.length ≤ 1000) (HL : Hid (LfA p B w l)) : Calls Try.prog 62 #[.pointer (some ⟨p, 0, none⟩), .int .i64 d] w fun e w' => e = .returned (.int .i64 (nthI l m)) ∧ ∃ q, w' = w.drewN q := by
  obtain ⟨s, cap, c0, -, hr⟩ := HL.out.row
  obtain ⟨g, o, rfl, hg, cm⟩ := hr m (by omega)
  obtain ⟨N, hN⟩ : ∃ N, l.length = N := ⟨_, rfl⟩
  rw [hN] at c0 hd hl
  have e1 : (N : Int) - 1 - (d : Int) = (m : Int) := by omega
  have e2 : (m : Int) < (N : Int) := by omega
  have e3 : (N : Int) ≤ 1000 := by omega
  have e4 : (d : Int) ≤ 1000 := by omega
  obtain ⟨x, hx⟩ : ∃ x, nthI l m = x := ⟨_, rfl⟩
  rw [hx] at cm ⊢
  have w1 : IntKind.i64.wrap ((N : Int) - 1) = (N : Int) - 1 := by rw [IntKind.wrap_i64]; omega
  have w2 : IntKind.i64.wrap ((N : Int) - 1 - (d : Int)) = (m : Int) := by rw [IntKind.wrap_i64]; omega
  have w3 : IntKind.i64.wrap (m : Int) = (m : Int) := by rw [IntKind.wrap_i64]; omega
  clear hN hd hl hr hx
  go_enter Try.func62, Try.ntmps62
  go_upto_region 1 with fail
  go_quiet (fail)
  go_wp2
  go_ret
  exact ⟨rfl, _, rfl⟩
set_option maxRecDepth 20000 in
set_option maxHeartbeats 4000000 in
theorem dropLowest_any (p B : Nat) (l : List Int) (w : World) (h2 : 2 ≤ l.length) (hl : l.length ≤ 1000) (HL : Hid (LfA p B w l)) : Calls Try.prog 63 #[.pointer (some ⟨p, 0, none⟩)] w fun e w' => e = .returned (.tuple #[]) ∧ LfA p B w' (l.drop 1) ∧ Fr p B w w' := by
  have hst := store_svR
  obtain ⟨h1, hz, hf, v, c0, hS⟩ := HL.out
  rcases hS with ⟨_, e⟩ | ⟨g, o, cap, cur, rfl, k1, k2, k3, k4, k5⟩
  · rw [e] at h2; simp at h2
  have HS : Hid (StkO B w (.slice (some ⟨g, o, none⟩) l.length cap) l) := .inr ⟨g, o, cap, cur, rfl, k1, k2, k3, k4, k5⟩
  have HSd : Hid (StkO B w (.slice (some ⟨g, o + 1, none⟩) (l.length - 1) (cap - 1)) (l.drop 1)) := HS.out.drop 1 (by omega)
  obtain ⟨N, hN⟩ : ∃ N, l.length = N := ⟨_, rfl⟩
  rw [hN] at c0 k3 HSd h2 hl
  obtain ⟨N1, hN1⟩ : ∃ z, N - 1 = z := ⟨_, rfl⟩
  obtain ⟨C1, hC1⟩ : ∃ z, cap - 1 = z := ⟨_, rfl⟩
  have f0 := hf 0
  have q0 : ¬ cap = 1 := by omega
  have zp : p < w.heap.size := by omega
  have HL2 : Hid (LfA p B (w.setCell ⟨p, 0, none⟩ (.slice (some ⟨g, o + 1, none⟩) (N - 1) (cap - 1))) (l.drop 1)) := HL.out.set HSd.out
  have HF : Hid (Fr p B w (w.setCell ⟨p, 0, none⟩ (.slice (some ⟨g, o + 1, none⟩) (N - 1) (cap - 1)))) := Fr.beside (Beside.setCell p w 0 _)
  have n1 : (1 : Int) ≤ (N : Int) := by omega
  have n2 : (N : Int) ≤ (cap : Int) := by omega
  clear hN k1 k2 k3 k4 k5 h2 hl hN1 hC1
  go_enter Try.func63, Try.ntmps63
  go_wp2
  go_end0
  refine ⟨rfl, ?_, ?_⟩
  · simpa using HL2.out
  · simpa using HF.out
set_option maxRecDepth 20000 in
set_option maxHeartbeats 4000000 in
theorem dropTop_any (p B : Nat) (l : List Int) (d m : Nat) (w : World) (hd : m + d = l.length) (h0 : 0 < l.length) (hl : l.length ≤ 1000) (HL : Hid (LfA p B w l)) : Calls Try.prog 64 #[.pointer (some ⟨p, 0, none⟩), .int .i64 d] w fun e w' => e = .returned (.tuple #[]) ∧ LfA p B w' (l.take m) ∧ Fr p B w w' := by
  have hst := store_svR
  obtain ⟨h1, hz, hf, v, c0, hS⟩ := HL.out
  rcases hS with ⟨_, e⟩ | ⟨g, o, cap, cur, rfl, k1, k2, k3, k4, k5⟩
  · rw [e] at h0; simp at h0
  have HS : Hid (StkO B w (.slice (some ⟨g, o, none⟩) l.length cap) l) := .inr ⟨g, o, cap, cur, rfl, k1, k2, k3, k4, k5⟩
  have HSd : Hid (StkO B w (.slice (some ⟨g, o, none⟩) m cap) (l.take m)) := HS.out.take m (by omega) h0
  obtain ⟨N, hN⟩ : ∃ N, l.length = N := ⟨_, rfl⟩
  rw [hN] at c0 k3 hd hl h0
  have f0 := hf 0
  have zp : p < w.heap.size := by omega
  have e1 : (N : Int) - (d : Int) = (m : Int) := by omega
  have n2 : (m : Int) ≤ (cap : Int) := by omega
  have n3 : (N : Int) ≤ 1000 := by omega
  have n4 : (d : Int) ≤ 1000 := by omega
  clear hN k1 k2 k3 k4 k5 hl h0 hd
  go_enter Try.func64, Try.ntmps64
  go_upto_region 0 with fail
  go_region
  all_goals
    first
      | (go_wp2
         go_end0
         refine ⟨rfl, ?_, ?_⟩
         · exact (HL.out.below (Below.drew (Below.refl _ _))).set (HSd.out.below (Below.drew (Below.refl _ _)))
         · exact (Fr.of (Below.drew (Below.refl _ _))).trans (Fr.beside (Beside.setCell p _ 0 _)))
set_option maxRecDepth 20000 in
set_option maxHeartbeats 4000000 in
theorem lay_anyR (p B : Nat) (l : List Int) (x : Int) (w : World) (hl : l.length ≤ 1000) (HL : Hid (LfA p B w l)) : Calls Try.prog 37 #[.pointer (some ⟨p, 0, none⟩), .int .i64 x] w fun e w' => e = .returned (.tuple #[]) ∧ LfA p B w' (l ++ [x]) ∧ Fr p B w w' := by
  have hst := store_svR
  obtain ⟨h1, hz, hf, v, c0, hS⟩ := HL.out
  have HS : Hid (StkO B w v l) := hS
  obtain ⟨s, cap, rfl, -, -⟩ := hS.row
  have zp : p < w.heap.size := by omega
  clear hS
  go_enter Try.func37, Try.ntmps37
  go_wp2_with (at_builtin; refine list_pushO B (.slice s l.length cap) l (.tmp 8) (.tmp 10) (by rfl) (by rfl) (by rfl) (by rfl) HS.out (by omega) (by omega) ?_; intro s2 cap2 w2 hS2 hg2; have e2 : w2.heap[p]? = w.heap[p]? := hg2.block p zp (fun q => (by have := (HS.out.lt p q.symm).1; omega)); have c2 : w2.cell? ⟨p, 0, none⟩ = some (.slice s l.length cap) := (World.cell?_of_block (w := w) (a := ⟨p, 0, none⟩) e2).trans c0; have f2 : w2.frozen? ⟨p, 0, none⟩ = false := (World.frozen?_of_block (w := w) (a := ⟨p, 0, none⟩) e2).trans (hf 0))
  go_end0
  refine ⟨rfl, ?_, ?_⟩
  · exact LfA.put h1 (Nat.le_trans hz hg2.size) (fun o => (World.frozen?_of_block (w := w) (a := ⟨p, o, none⟩) e2).trans (hf o)) c2 hS2
  · exact (Fr.grown HS.out hg2).trans (Fr.beside (Beside.setCell p w2 0 _))
end Go.Proofs.Ythengechoaodcaa
