/-
What is proved: the program's machine: its memory, what each of its instructions does.
-/
import Derived.Test.YtdidgbibbkhnhaaEx
import Derived.Test.YtdidgbibbkhnhaaGvI
import Derived.Deep.RegionHeldLaw
namespace Go.Proofs.Ytdidgbibbkhnhaa
set_option maxRecDepth 40000
open Go.RowKit
set_option linter.unusedVariables false
set_option linter.unusedSimpArgs false

/-- A row of numbers in a block. -/
def NwAt (g : Nat) (W : World) (m : Nat) (N : Nat → Int) : Prop := g < W.heap.size ∧ (∀ o, W.frozen? ⟨g, o, none⟩ = false) ∧ ∀ j, j < m → W.cell? ⟨g, j, none⟩ = some (.int .i64 (N j))
theorem NwAt.same {g m : Nat} {W W' : World} {N : Nat → Int} (h : NwAt g W m N) (hs : W.heap.size ≤ W'.heap.size) (hb : W'.heap[g]? = W.heap[g]?) : NwAt g W' m N :=
  ⟨Nat.lt_of_lt_of_le h.1 hs, fun o => (World.frozen?_of_block (w := W) hb).trans (h.2.1 o), fun j hj => (World.cell?_of_block (w := W) hb).trans (h.2.2 j hj)⟩
theorem NwAt.set {g m k : Nat} {W : World} {N : Nat → Int} (h : NwAt g W m N) (hk : k < m) (x : Int) : NwAt g (W.setCell ⟨g, k, none⟩ (.int .i64 x)) m (seF N k x) := by
  obtain ⟨h1, h2, h3⟩ := h
  refine ⟨by simpa using h1, fun o => by simp [go_sem, h2], fun j hj => ?_⟩
  unfold seF
  by_cases e : j = k
  · subst e
    rw [if_pos rfl]
    have := h3 j hj
    simp [go_sem, this]
  · rw [if_neg e, World.cell?_setCell_other _ _ _ _ (by intro q; cases q; exact e rfl), h3 j hj]
/-- The machine at p. -/
def MaAt (w0 : World) (p lo b nw a : Nat) (so : Option Addr) (ca : Nat) (si : Option Addr) (ni ci : Nat) (W : World) (v : Value) (h : Nat) (F N : Nat → Int) : Prop := (w0.heap.size ≤ lo ∧ w0.heap.size ≤ nw ∧ nw < p ∧ b < p ∧ (nw < lo ∨ b < nw)) ∧ Below w0.heap.size w0 W ∧ p < W.heap.size ∧ (∀ o, W.frozen? ⟨p, o, none⟩ = false) ∧ (W.cell? ⟨p, 0, none⟩ = some (.slice (some ⟨b, 0, none⟩) 21 21) ∧ W.cell? ⟨p, 1, none⟩ = some (v) ∧ W.cell? ⟨p, 2, none⟩ = some (.slice (some ⟨nw, 0, none⟩) a a) ∧ W.cell? ⟨p, 3, none⟩ = some (.slice so a ca) ∧ W.cell? ⟨p, 4, none⟩ = some (.slice si ni ci)) ∧ KtAt W lo b ∧ NwAt nw W a N ∧ StkI (p + 1) W v h F
theorem KtAt.low {W W' : World} {lo b B : Nat} (h : KtAt W lo b) (hb : Below B W W') (hB : b < B) : KtAt W' lo b := by
  obtain ⟨ho, hl, h⟩ := h
  refine ⟨ho, Nat.lt_of_lt_of_le hl hb.size, fun i hi => ?_⟩
  obtain ⟨h0, h1, ⟨g, h2, h2r, h2b⟩, h3, h4⟩ := h i hi
  refine ⟨(hb.cell (p := ⟨b, i * 5, none⟩) hB).trans h0, (hb.cell (p := ⟨b, i * 5 + 1, none⟩) hB).trans h1, ⟨g, (hb.cell (p := ⟨b, i * 5 + 2, none⟩) hB).trans h2, fun j hj => ?_, h2b⟩, (hb.cell (p := ⟨b, i * 5 + 3, none⟩) hB).trans h3, (hb.cell (p := ⟨b, i * 5 + 4, none⟩) hB).trans h4⟩
  obtain ⟨y, o, e, hy, hc⟩ := h2r j hj
  have := h2b _ e
  simp only at this
  exact ⟨y, o, e, Nat.lt_of_lt_of_le hy hb.size, (hb.cell (p := ⟨y, o + j, none⟩) (show y < B by omega)).trans hc⟩
/-- Behind what has turned nothing up to p but the stack: the stack laid in its cell. -/
theorem MaAt.stack {w0 : World} {p lo b nw a : Nat} {so : Option Addr} {ca : Nat} {si : Option Addr} {ni ci : Nat} {W W' : World} {v v' : Value} {h h' : Nat} {F F' N : Nat → Int} (m : MaAt w0 p lo b nw a so ca si ni ci W v h F N) (hb : Below (p + 1) W W') (hs : StkI (p + 1) W' v' h' F') : MaAt w0 p lo b nw a so ca si ni ci (W'.setCell ⟨p, 1, none⟩ v') v' h' F' N := by
  obtain ⟨⟨o1, o2, o3, o4, o5⟩, mb, z, f, ⟨c0, c1, c2, c3, c4⟩, kt, nwa, -⟩ := m
  have bs := Beside.setCell p W' 1 v'
  have zp : p < p + 1 := Nat.lt_succ_self p
  have z' := Nat.lt_of_lt_of_le z hb.size
  have k' := kt.low hb (by omega)
  have n' : NwAt nw W' a N := nwa.same hb.size (hb.block nw (by omega))
  have c1' : W'.cell? ⟨p, 1, none⟩ = some v := (hb.cell (p := ⟨p, 1, none⟩) zp).trans c1
  refine ⟨⟨o1, o2, o3, o4, o5⟩, (mb.trans (hb.mono (by omega))).trans (bs.below (by omega) (by have := mb.size; have := hb.size; omega)), by simpa using z', fun o => by rw [show (W'.setCell ⟨p, 1, none⟩ v').frozen? ⟨p, o, none⟩ = W'.frozen? ⟨p, o, none⟩ from by simp [go_sem]]; exact (hb.frozen (p := ⟨p, o, none⟩) zp).trans (f o), ⟨?_, ?_, ?_, ?_, ?_⟩, k'.beside bs (by omega), n'.same bs.2.2.2.1 (bs.2.2.2.2 nw n'.1 (by omega)), hs.beside bs (by omega)⟩
  · rw [World.cell?_setCell_other _ _ _ _ (by intro q; cases q)]; exact (hb.cell (p := ⟨p, 0, none⟩) zp).trans c0
  · exact World.cell?_setCell_same' _ _ _ (by rw [c1']; rfl)
  · rw [World.cell?_setCell_other _ _ _ _ (by intro q; cases q)]; exact (hb.cell (p := ⟨p, 2, none⟩) zp).trans c2
  · rw [World.cell?_setCell_other _ _ _ _ (by intro q; cases q)]; exact (hb.cell (p := ⟨p, 3, none⟩) zp).trans c3
  · rw [World.cell?_setCell_other _ _ _ _ (by intro q; cases q)]; exact (hb.cell (p := ⟨p, 4, none⟩) zp).trans c4
theorem MaAt.below {w0 : World} {p lo b nw a : Nat} {so : Option Addr} {ca : Nat} {si : Option Addr} {ni ci : Nat} {W W' : World} {v : Value} {h : Nat} {F N : Nat → Int} (m : MaAt w0 p lo b nw a so ca si ni ci W v h F N) (hb : Below W.heap.size W W') : MaAt w0 p lo b nw a so ca si ni ci W' v h F N := by
  obtain ⟨o, mb, z, f, ⟨c0, c1, c2, c3, c4⟩, kt, nwa, st⟩ := m
  exact ⟨o, mb.trans (hb.mono mb.size), Nat.lt_of_lt_of_le z hb.size, fun o => (hb.frozen (p := ⟨p, o, none⟩) z).trans (f o), ⟨(hb.cell (p := ⟨p, 0, none⟩) z).trans c0, (hb.cell (p := ⟨p, 1, none⟩) z).trans c1, (hb.cell (p := ⟨p, 2, none⟩) z).trans c2, (hb.cell (p := ⟨p, 3, none⟩) z).trans c3, (hb.cell (p := ⟨p, 4, none⟩) z).trans c4⟩, kt.below hb, nwa.same hb.size (hb.block nw nwa.1), st.below hb⟩
theorem MaAt.now {w0 : World} {p lo b nw a : Nat} {so : Option Addr} {ca : Nat} {si : Option Addr} {ni ci : Nat} {W : World} {v : Value} {h k : Nat} {F N : Nat → Int} (m : MaAt w0 p lo b nw a so ca si ni ci W v h F N) (hk : k < a) (x : Int) : MaAt w0 p lo b nw a so ca si ni ci (W.setCell ⟨nw, k, none⟩ (.int .i64 x)) v h F (seF N k x) := by
  obtain ⟨⟨o1, o2, o3, o4, o5⟩, mb, z, f, ⟨c0, c1, c2, c3, c4⟩, kt, nwa, st⟩ := m
  have bs := Beside.setCell nw W k (.int .i64 x)
  have np : p ≠ nw := by omega
  exact ⟨⟨o1, o2, o3, o4, o5⟩, mb.trans (bs.below o2 mb.size), by simpa using z, fun o => (bs.frozen (p := ⟨p, o, none⟩) z np).trans (f o), ⟨(bs.cell (p := ⟨p, 0, none⟩) z np).trans c0, (bs.cell (p := ⟨p, 1, none⟩) z np).trans c1, (bs.cell (p := ⟨p, 2, none⟩) z np).trans c2, (bs.cell (p := ⟨p, 3, none⟩) z np).trans c3, (bs.cell (p := ⟨p, 4, none⟩) z np).trans c4⟩, kt.beside bs o5, nwa.set hk x, st.beside bs (by omega)⟩
theorem store_sv : ∀ (W : World) (a : Addr) (s : Option Addr) (n c : Nat), (W.cell? a).isSome = true → W.frozen? a = false → (store a (.slice s n c)).run Try.prog W = .ok () (W.setCell a (.slice s n c)) := fun W a s n c h hf => by
  obtain ⟨u, hu⟩ := Option.isSome_iff_exists.1 h
  rw [run_store Try.prog W a _ _ rfl, hu]
  simp [hf]
set_option maxRecDepth 20000 in
set_option maxHeartbeats 2000000 in
theorem lay_any (w0 : World) (p lo b nw a : Nat) (so : Option Addr) (ca : Nat) (si : Option Addr) (ni ci : Nat) (v : Value) (h : Nat) (F N : Nat → Int) (x : Int) (w : World) (hh : h ≤ 10) (HM : Hid (MaAt w0 p lo b nw a so ca si ni ci w v h F N)) : Calls Try.prog 50 #[.pointer (some ⟨p, 0, none⟩), .int .i64 x] w fun e w' => e = .returned (.tuple #[]) ∧ ∃ v', MaAt w0 p lo b nw a so ca si ni ci w' v' (h + 1) (puF F h x) N := by
  have sto := store_sv
  have HS : Hid (StkI (p + 1) w v h F) := HM.out.2.2.2.2.2.2.2
  obtain ⟨-, -, z, f, ⟨-, c1, -, -, -⟩, -, -, -⟩ := HM.out
  have f1 := f 1
  have zB : Hid (p + 1 ≤ w.heap.size) := z
  have HV := HS.out
  rcases HV with ⟨rfl, rfl⟩ | ⟨g, cap, rfl, -⟩
  all_goals
    go_enter Try.func50, Try.ntmps50
    go_wp2_with (at_builtin; refine list_push (p + 1) _ _ F (.tmp 8) (.tmp 10) (by rfl) (by rfl) (by rfl) (by rfl) (by exact HS.out) (by exact zB.out) (by omega) ?_; intro s' cap' w3 hst hbl; have HST : Hid (StkI (p + 1) w3 _ _ (puF F _ x)) := hst; have HBL : Hid (Below (p + 1) w w3) := hbl; clear hst; have d1 := (hbl.cell (p := ⟨p, 1, none⟩) (Nat.lt_succ_self p)).trans c1; have e1 := (hbl.frozen (p := ⟨p, 1, none⟩) (Nat.lt_succ_self p)).trans f1; have z3 := Nat.lt_of_lt_of_le z hbl.size; clear hbl)
    go_end0
    exact ⟨rfl, _, HM.out.stack HBL.out HST.out⟩
set_option maxRecDepth 20000 in
set_option maxHeartbeats 2000000 in
theorem layNow_any (w0 : World) (p lo b nw a : Nat) (so : Option Addr) (ca : Nat) (si : Option Addr) (ni ci : Nat) (v : Value) (h : Nat) (F N : Nat → Int) (M : Nat) (w : World) (hM : M < a) (ha : a ≤ 60) (hh : h ≤ 10) (HM : Hid (MaAt w0 p lo b nw a so ca si ni ci w v h F N)) : Calls Try.prog 46 #[.pointer (some ⟨p, 0, none⟩), .int .i64 (M : Int)] w fun e w' => e = .returned (.tuple #[]) ∧ ∃ v', MaAt w0 p lo b nw a so ca si ni ci w' v' (h + 1) (puF F h (N M)) N := by
  obtain ⟨-, -, z, f, ⟨-, -, c2, -, -⟩, -, ⟨zg, -, gc⟩, -⟩ := HM.out
  have cM := gc M hM
  have mI : (M : Int) < (a : Int) := by omega
  clear gc f
  go_enter Try.func46, Try.ntmps46
  go_wp2_with fail
  refine (lay_any w0 p lo b nw a so ca si ni ci v h F N (N M) _ hh HM).mono ?_
  rintro e w1 ⟨rfl, v', HX⟩
  have HX : Hid (MaAt w0 p lo b nw a so ca si ni ci w1 v' (h + 1) (puF F h (N M)) N) := HX
  go_wp2
  go_end0
  exact ⟨rfl, v', HX.out⟩
set_option maxRecDepth 20000 in
set_option maxHeartbeats 2000000 in
theorem layOld_any (w0 : World) (p lo b nw a : Nat) (so : Option Addr) (ca : Nat) (si : Option Addr) (ni ci : Nat) (v : Value) (h : Nat) (F N : Nat → Int) (M : Nat) (w : World) (O : Nat → Int) (hM : M < a) (ha : a ≤ 60) (HR : Hid (RowI w0 so a O)) (hh : h ≤ 10) (HM : Hid (MaAt w0 p lo b nw a so ca si ni ci w v h F N)) : Calls Try.prog 48 #[.pointer (some ⟨p, 0, none⟩), .int .i64 (M : Int)] w fun e w' => e = .returned (.tuple #[]) ∧ ∃ v', MaAt w0 p lo b nw a so ca si ni ci w' v' (h + 1) (puF F h (O M)) N := by
  obtain ⟨-, mb, z, f, ⟨-, -, -, c3, -⟩, -, -, -⟩ := HM.out
  obtain ⟨g, o, es, hg, x0⟩ := HR.out M hM
  rw [es] at c3
  clear es
  have cM : w.cell? ⟨g, o + M, none⟩ = some (.int .i64 (O M)) := (mb.cell (p := ⟨g, o + M, none⟩) hg).trans x0
  have zg : g < w.heap.size := Nat.lt_of_lt_of_le hg mb.size
  have mI : (M : Int) < (a : Int) := by omega
  clear f x0 mb
  go_enter Try.func48, Try.ntmps48
  go_wp2_with fail
  refine (lay_any w0 p lo b nw a so ca si ni ci v h F N (O M) _ hh HM).mono ?_
  rintro e w1 ⟨rfl, v', HX⟩
  have HX : Hid (MaAt w0 p lo b nw a so ca si ni ci w1 v' (h + 1) (puF F h (O M)) N) := HX
  go_wp2
  go_end0
  exact ⟨rfl, v', HX.out⟩
set_option maxRecDepth 20000 in
set_option maxHeartbeats 2000000 in
theorem layIn_any (w0 : World) (p lo b nw a : Nat) (so : Option Addr) (ca : Nat) (si : Option Addr) (ni ci : Nat) (v : Value) (h : Nat) (F N : Nat → Int) (M : Nat) (w : World) (I : Nat → Int) (hM : M < ni) (ha : ni ≤ 60) (HR : Hid (RowI w0 si ni I)) (hh : h ≤ 10) (HM : Hid (MaAt w0 p lo b nw a so ca si ni ci w v h F N)) : Calls Try.prog 52 #[.pointer (some ⟨p, 0, none⟩), .int .i64 (M : Int)] w fun e w' => e = .returned (.tuple #[]) ∧ ∃ v', MaAt w0 p lo b nw a so ca si ni ci w' v' (h + 1) (puF F h (I M)) N := by
  obtain ⟨-, mb, z, f, ⟨-, -, -, -, c4⟩, -, -, -⟩ := HM.out
  obtain ⟨g, o, es, hg, x0⟩ := HR.out M hM
  rw [es] at c4
  clear es
  have cM : w.cell? ⟨g, o + M, none⟩ = some (.int .i64 (I M)) := (mb.cell (p := ⟨g, o + M, none⟩) hg).trans x0
  have zg : g < w.heap.size := Nat.lt_of_lt_of_le hg mb.size
  have mI : (M : Int) < (ni : Int) := by omega
  clear f x0 mb
  go_enter Try.func52, Try.ntmps52
  go_wp2_with fail
  refine (lay_any w0 p lo b nw a so ca si ni ci v h F N (I M) _ hh HM).mono ?_
  rintro e w1 ⟨rfl, v', HX⟩
  have HX : Hid (MaAt w0 p lo b nw a so ca si ni ci w1 v' (h + 1) (puF F h (I M)) N) := HX
  go_wp2
  go_end0
  exact ⟨rfl, v', HX.out⟩
set_option maxRecDepth 20000 in
set_option maxHeartbeats 4000000 in
theorem take_any (w0 : World) (p lo b nw a : Nat) (so : Option Addr) (ca : Nat) (si : Option Addr) (ni ci : Nat) (v : Value) (h : Nat) (F N : Nat → Int) (k : Nat) (w : World) (k1 : 1 ≤ k) (hk : k ≤ h) (hh : h ≤ 10) (HM : Hid (MaAt w0 p lo b nw a so ca si ni ci w v h F N)) : Calls Try.prog 61 #[.pointer (some ⟨p, 0, none⟩), .int .i64 (k : Int)] w fun e w' => ∃ g c, e = .returned (.slice (some ⟨g, h - k, none⟩) k c) ∧ g < w'.heap.size ∧ p < g ∧ (∀ j, j < k → w'.cell? ⟨g, h - k + j, none⟩ = some (.int .i64 (F (h - k + j)))) ∧ Beside p w w' ∧ ∃ v', MaAt w0 p lo b nw a so ca si ni ci w' v' (h - k) F N := by
  have sto := store_sv
  have HS := HM.out.2.2.2.2.2.2.2
  rcases HS with ⟨_, q⟩ | ⟨g, cap, rfl, h1, h2, h3, h4, h5, h6⟩
  · omega
  obtain ⟨-, -, z, f, ⟨-, c1, -, -, -⟩, -, -, -⟩ := HM.out
  have f1 := f 1
  have i1 : (w.cell? ⟨p, 1, none⟩).isSome = true := by rw [c1]; rfl
  obtain ⟨L, hL⟩ : ∃ L, h = L + k := ⟨h - k, by omega⟩
  subst hL
  have eL : L + k - k = L := by omega
  have hst : StkI (p + 1) w (.slice (some ⟨g, 0, none⟩) L L) L F := .inr ⟨g, L, rfl, h1, h2, Nat.le_refl _, h4, fun j hj => h5 j (by omega), fun j hj => h6 j (by omega)⟩
  have HX : Hid (MaAt w0 p lo b nw a so ca si ni ci (w.setCell ⟨p, 1, none⟩ (.slice (some ⟨g, 0, none⟩) L L)) (.slice (some ⟨g, 0, none⟩) L L) L F N) := HM.out.stack (Below.refl _ _) hst
  have np : g ≠ p := by omega
  have HC : Hid (∀ j, j < k → (w.setCell ⟨p, 1, none⟩ (.slice (some ⟨g, 0, none⟩) L L)).cell? ⟨g, L + j, none⟩ = some (.int .i64 (F (L + j)))) := fun j hj => ((Beside.setCell p w 1 _).cell (p := ⟨g, L + j, none⟩) h2 np).trans (h5 _ (by omega))
  have x1 : ((L + k : Nat) : Int) - (k : Int) = (L : Int) := by omega
  have x2 : (k : Int) ≤ 10 := by omega
  have x3 : ((L + k : Nat) : Int) ≤ 10 := by omega
  have x4 : ((L + k : Nat) : Int) ≤ (cap : Int) := by omega
  have x5 : (L : Int) ≤ ((L + k : Nat) : Int) := by omega
  have x6 : (L : Int) ≤ (cap : Int) := by omega
  have x7 : ¬ cap = L := by omega
  have pg : p < g := by omega
  rw [eL]
  clear h5 h6 h4 hst f h3
  go_enter Try.func61, Try.ntmps61
  go_wp2
  go_ret
  exact ⟨g, _, rfl, by simpa using h2, pg, HC.out, Beside.setCell _ _ _ _, _, HX.out⟩
end Go.Proofs.Ytdidgbibbkhnhaa
