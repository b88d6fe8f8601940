/-
What is proved: the modes that each step leads to, worked back from the last one by a range over a function.
-/
import Derived.Test.YtlkegoofpmgcjaaEnM
import Derived.Test.YtlkegoofpmgcjaaLsF
import Derived.Test.YtlkegoofpmgcjaaBnX
import Derived.Deep.OwnRows
import Derived.Deep.RegionHeldLaw
namespace Go.Proofs.Ytlkegoofpmgcjaa
set_option maxRecDepth 40000
open Go.ChangeShapes Go.WideShapes Go.ChangeAt Go.RowKit
set_option linter.unusedVariables false
set_option linter.unusedSimpArgs false

open Go.Shelf
attribute [local go_sem] Oper.semAt_some
theorem make_ll (n : Nat) (hn : n ≤ 1048576) (w : World) : (Instr.makeSlice 58 (.int .i64 (n : Int)) (.int .i64 (n : Int))).run Try.prog w = .ok (.slice (some ⟨w.heap.size, 0, none⟩) n n) (w.alloc (.cells (madeCells #[.slice none 0 0] n) 27)) := by
  have hinfo : (Try.prog.info? 27).map (fun i => (i.zero, i.size, i.bytes)) = some (some (.slice none 0 0), 1, 24) := by kernel_rfl
  obtain ⟨i, hi, hzz⟩ := Option.map_eq_some_iff.1 hinfo
  simp only [Prod.mk.injEq] at hzz
  obtain ⟨hz, hs, hb⟩ := hzz
  have hr := run_make (P := Try.prog) w 58 27 i _ Try.underlying58 hi hz .i64 .i64 n n (by omega) (Int.le_refl _) (by rw [hb]; omega) (by omega)
  simp only [Int.toNat_natCast, hs, Nat.mul_one] at hr
  exact hr
def TabL (n0 bf : Nat) (W0 : World) (n : Nat) (T : Nat → List Int) (W : World) : Prop := KpB n0 bf W0 W ∧ (∀ j, j < n → ∃ t c, W.cell? ⟨bf, j, none⟩ = some (.slice t (T j).length c) ∧ LstF n0 W t c (T j)) ∧ (∀ j, W.frozen? ⟨bf, j, none⟩ = false) ∧ n0 ≤ W.heap.size
theorem TabL.own {n0 bf n : Nat} {W0 : World} {β : Type} (f : β → Nat → List Int) (hf : bf < n0) : OwnFrom n0 (fun (s : β) W => TabL n0 bf W0 n (f s) W) := fun s W W' row hs hg hr => by
  have hb : ∀ k, k < n0 → W'.heap[k]? = W.heap[k]? := fun k hk => hg.block k (Nat.lt_of_lt_of_le hk hs.2.2.2) (fun e => by have := (hr k e.symm).1; omega)
  refine ⟨⟨Nat.le_trans hs.1.1 hg.size, fun k hk hn => (hb k hk).trans (hs.1.2 k hk hn)⟩, fun j hj => ?_, fun j => (World.frozen?_of_block (a := ⟨bf, j, none⟩) (hb bf hf)).trans (hs.2.2.1 j), Nat.le_trans hs.2.2.2 hg.size⟩
  obtain ⟨t, c, h1, h2⟩ := hs.2.1 j hj
  refine ⟨t, c, (World.cell?_of_block (a := ⟨bf, j, none⟩) (hb bf hf)).trans h1, ?_⟩
  rcases h2 with h2 | ⟨h0, g, e, hg0, hgz, hc, hfz⟩
  · exact .inl h2
  · have h00 : 0 < (f s j).length := List.length_pos_iff.2 h0
    exact .inr ⟨h0, g, e, hg0, Nat.lt_of_lt_of_le hgz hg.size, fun i hi => cell_kept (hc i hi) hg (fun r e => (hr r e).2), fun i => (World.frozen?_of_block (a := ⟨g, i, none⟩) (hg.block g hgz (fun e => by
      obtain ⟨o, ho, hcell⟩ := (hr g e.symm).2
      have := hc 0 h00
      simp only [World.cell?, ho] at this
      cases o <;> simp [Obj.isCells] at hcell <;> simp at this))).trans (hfz i)⟩
theorem TabL.below {n0 bf n : Nat} {W0 W W' : World} {T : Nat → List Int} (h : TabL n0 bf W0 n T W) (hb : Below W.heap.size W W') (hf : bf < n0) : TabL n0 bf W0 n T W' := by
  have hz : bf < W.heap.size := Nat.lt_of_lt_of_le hf h.2.2.2
  refine ⟨h.1.trans (KpB.below (hb.mono h.2.2.2)), fun j hj => ?_, fun j => (hb.frozen (p := ⟨bf, j, none⟩) hz).trans (h.2.2.1 j), Nat.le_trans h.2.2.2 hb.size⟩
  obtain ⟨t, c, h1, h2⟩ := h.2.1 j hj
  exact ⟨t, c, (hb.cell (p := ⟨bf, j, none⟩) hz).trans h1, h2.below hb⟩
theorem TabL.set {n0 bf n p : Nat} {W0 W : World} {T : Nat → List Int} (h : TabL n0 bf W0 n T W) (hf : bf < n0) (hp : p < n) {t : Option Addr} {c : Nat} {L : List Int} (hL : LstF n0 W t c L) : TabL n0 bf W0 n (updL T p L) (W.setCell ⟨bf, p, none⟩ (.slice t L.length c)) := by
  have bs : Beside bf W (W.setCell ⟨bf, p, none⟩ (.slice t L.length c)) := Beside.setCell bf _ _ _
  refine ⟨h.1.trans (KpB.beside bs h.2.2.2), fun j hj => ?_, fun j => by rw [World.frozen?_setCell]; exact h.2.2.1 j, Nat.le_trans h.2.2.2 bs.2.2.2.1⟩
  obtain ⟨t', c', h1, h2⟩ := h.2.1 j hj
  unfold updL
  by_cases e : j = p
  · subst e
    rw [if_pos rfl]
    exact ⟨t, c, World.cell?_setCell_same' _ _ _ (by rw [h1]; rfl), hL.set hf⟩
  · rw [if_neg e]
    exact ⟨t', c', (World.cell?_setCell_other _ _ _ _ (by intro q; cases q; exact e rfl)).trans h1, h2.set hf⟩
theorem ofModeE (x : Int) (w : World) : Calls Try.prog 40 #[.int .i64 x] w fun e w' => e = .returned (.slice (some ⟨w.heap.size, 0, none⟩) 1 1) ∧ w' = w.alloc (.cells #[.int .i64 x] 2) := by
  go_enter Try.func40, Try.ntmps40
  go_wp2
  go_ret
  exact ⟨rfl, rfl⟩
theorem ofStepE (p : Int) (t1 t2 : Option Addr) (c1 c2 : Nat) (L1 L2 : List Int) (w : World) (h1 : L1.length ≤ 8) (h2 : L2.length ≤ 8) (H1 : Hid (LstV w t1 c1 L1)) (H2 : Hid (LstV w t2 c2 L2)) :
    Calls Try.prog 41 #[.int .i64 p, .slice t1 L1.length c1, .slice t2 L2.length c2] w fun e w' => JnPost L1 L2 w e w' := by
  go_enter Try.func41, Try.ntmps41
  go_wp2_with fail
  refine (joined_any t1 t2 c1 c2 L1 L2 w h1 h2 H1 H2).mono ?_
  rintro e w1 hJ
  unfold JnPost at hJ
  obtain ⟨t, c, rfl, hl, hb⟩ := hJ
  go_wp2
  go_ret
  exact ⟨t, c, rfl, hl, hb⟩
def FaPost (n0 : Nat) (G : List Int) (w : World) (e : Ending) (w' : World) : Prop := ∃ t c, e = .returned (.slice t G.length c) ∧ LstF n0 w' t c G ∧ Below w.heap.size w w'
theorem foundAtE (n0 bm bg bf n : Nat) (T : Nat → List Int) (x : Int) (w : World) (hn : (n : Int) ≤ 40) (hn0 : n0 ≤ w.heap.size) (h0 : w.cell? ⟨bm, 0, none⟩ = some (.func (.func 40) #[] #[])) (h1 : w.cell? ⟨bg, 0, none⟩ = some (.slice (some ⟨bf, 0, none⟩) n n)) (h2 : ∀ j, j < n → ∃ t c, w.cell? ⟨bf, j, none⟩ = some (.slice t (T j).length c) ∧ LstF n0 w t c (T j)) (hx : (modB x = true) ∨ (modB x = false ∧ 0 ≤ x ∧ x < n)) :
    Calls Try.prog 59 #[.int .i64 x, .pointer (some ⟨bm, 0, none⟩), .pointer (some ⟨bg, 0, none⟩)] w fun e w' => FaPost n0 (gL T x) w e w' := by
  rcases hx with hx | ⟨hx, x0, x1⟩
  · have hg : gL T x = [x] := by unfold gL; rw [if_pos hx]
    rw [hg]
    clear h1 h2
    go_enter Try.func59, Try.ntmps59
    go_wp2_with fail
    refine (isMode_any x w).mono ?_
    rintro e w1 ⟨rfl, rfl⟩
    rw [hx]
    go_wp2_with fail
    refine (ofModeE x w1).mono ?_
    rintro e w2 ⟨rfl, hw2⟩
    have HF : Hid (LstF n0 w2 (some ⟨w1.heap.size, 0, none⟩) 1 [x]) := .inr ⟨by simp, w1.heap.size, rfl, hn0, by rw [hw2]; simp, fun i hi => by
      have : i = 0 := (by simp at hi; omega)
      subst this
      rw [hw2]
      simp [go_sem], fun i => by rw [hw2]; simp [go_sem]⟩
    have b2 : Below w1.heap.size w1 w2 := by rw [hw2]; exact below0 _ _
    clear hw2
    go_wp2
    go_ret
    exact ⟨_, 1, rfl, HF.out, b2⟩
  · obtain ⟨k, rfl⟩ : ∃ k : Nat, x = (k : Int) := ⟨x.toNat, by omega⟩
    have hg : gL T (k : Int) = T k := by unfold gL; rw [if_neg (by rw [hx]; simp)]; simp
    rw [hg]
    obtain ⟨t, c, h3, h4⟩ := h2 k (by omega)
    have HF : Hid (LstF n0 w t c (T k)) := h4
    clear h2 hg h4
    go_enter Try.func59, Try.ntmps59
    go_wp2_with fail
    refine (isMode_any (k : Int) w).mono ?_
    rintro e w1 ⟨rfl, rfl⟩
    rw [hx]
    go_wp2
    go_ret
    exact ⟨t, c, rfl, HF.out, Below.refl _ _⟩
set_option maxRecDepth 20000 in
set_option maxHeartbeats 4000000 in
theorem workedE_any (s : Option Addr) (n c : Nat) (V : Nat → Int) (w : World) (hn : 0 < n) (h40 : (n : Int) ≤ 40) (hp : planB n V = true) (HR : Hid (RowI w s (n * 5) V)) :
    Calls Try.prog 39 #[.slice s n c, (.func (.func 40) #[] #[]), (.func (.func 41) #[] #[])] w fun e w' => ∃ bf, e = .returned (.slice (some ⟨bf, 0, none⟩) n n) ∧ (∀ j, j < n → ∃ t c, w'.cell? ⟨bf, j, none⟩ = some (.slice t (etR V (pls (dA n hn n)) j).length c) ∧ LstF w.heap.size w' t c (etR V (pls (dA n hn n)) j)) ∧ Below w.heap.size w w' := by
  have hmk := make_ll n (by omega)
  have sto := store_fnB
  have sto2 := store_slB
  refine (callsIn_wide (n := 3)).1 ?_
  refine callsIn_of_wp_marks Try.func39 rfl trivial ?_ rfl
  simp only [Try.ntmps39, List.size_toArray, List.length_cons, List.length_nil, Nat.reduceAdd, Nat.reduceSub, Array.replicate_succ, Array.replicate_zero, List.push_toArray, List.append_toArray, List.nil_append, List.cons_append]
  gi_wp2_with (refine ⟨trivial, ?_⟩; gi_at_call 56; refine (callsIn_wide.2 (fromLast_any _ _ _ _)).mono ?_; rintro e w' ⟨rfl, rfl⟩)
  obtain ⟨W0, hW0⟩ : ∃ z, z = ((((((w.alloc (.cells #[(.func (.func 40) #[] #[])] 60)).alloc (.cells #[(.func (.func 41) #[] #[])] 62)).alloc (.cells (madeCells #[.slice none 0 0] n) 27)).alloc (.cells #[.slice (some ⟨w.heap.size + 1 + 1, 0, none⟩) n n] 58)).alloc (.cells #[.func (.func 59) #[] #[.pointer (some ⟨w.heap.size, 0, none⟩), .pointer (some ⟨w.heap.size + 1 + 1 + 1, 0, none⟩)]] 60)).alloc (.cells #[.slice s n c] 24)) := ⟨_, rfl⟩
  rw [← hW0]
  have B0 : Below w.heap.size w W0 := by rw [hW0]; exact (by repeat (first | with_reducible exact Below.refl _ _ | with_reducible refine Below.setCell ?_ (by first | omega | (simp; done) | (simp; omega)) _ | with_reducible refine bDrewN ?_ _ | with_reducible refine Below.drew ?_ | with_reducible refine Below.alloc ?_ (by first | omega | (simp; done) | (simp; omega)) _))
  have c4 : W0.cell? ⟨w.heap.size, 0, none⟩ = some (.func (.func 40) #[] #[]) := by rw [hW0]; simp [go_sem]
  have c5 : W0.cell? ⟨w.heap.size + 1, 0, none⟩ = some (.func (.func 41) #[] #[]) := by rw [hW0]; simp (maxDischargeDepth := 12) [go_sem]
  have c7 : W0.cell? ⟨w.heap.size + 1 + 1 + 1, 0, none⟩ = some (.slice (some ⟨w.heap.size + 1 + 1, 0, none⟩) n n) := by rw [hW0]; simp (maxDischargeDepth := 12) [go_sem]
  have c8 : W0.cell? ⟨w.heap.size + 1 + 1 + 1 + 1, 0, none⟩ = some (.func (.func 59) #[] #[.pointer (some ⟨w.heap.size, 0, none⟩), .pointer (some ⟨w.heap.size + 1 + 1 + 1, 0, none⟩)]) := by rw [hW0]; simp (maxDischargeDepth := 12) [go_sem]
  have cp : W0.cell? ⟨w.heap.size + 1 + 1 + 1 + 1 + 1, 0, none⟩ = some (.slice s n c) := by rw [hW0]; simp (maxDischargeDepth := 12) [go_sem]
  have cf : ∀ j, j < n → W0.cell? ⟨w.heap.size + 1 + 1, j, none⟩ = some (.slice none 0 0) := fun j hj => by
    rw [hW0]
    simp (maxDischargeDepth := 12) [go_sem, madeCells, hj]
    rw [Nat.mod_one]
    rfl
  have ff : ∀ j, W0.frozen? ⟨w.heap.size + 1 + 1, j, none⟩ = false := fun j => by
    rw [hW0]
    simp (maxDischargeDepth := 12) [go_sem]
  have sz : W0.heap.size = w.heap.size + 6 := by rw [hW0]; simp
  obtain ⟨bp, hbp⟩ : ∃ b, b = w.heap.size + 1 + 1 + 1 + 1 + 1 := ⟨_, rfl⟩
  obtain ⟨b8, hb8⟩ : ∃ b, b = w.heap.size + 1 + 1 + 1 + 1 := ⟨_, rfl⟩
  obtain ⟨b7, hb7⟩ : ∃ b, b = w.heap.size + 1 + 1 + 1 := ⟨_, rfl⟩
  obtain ⟨bf, hbf⟩ : ∃ b, b = w.heap.size + 1 + 1 := ⟨_, rfl⟩
  obtain ⟨b5, hb5⟩ : ∃ b, b = w.heap.size + 1 := ⟨_, rfl⟩
  obtain ⟨b4, hb4⟩ : ∃ b, b = w.heap.size := ⟨_, rfl⟩
  rw [← hbp] at cp
  rw [← hb8, ← hb7, ← hb4] at c8
  rw [← hb7, ← hbf] at c7
  rw [← hbf] at cf ff
  rw [← hb5] at c5
  rw [← hb4] at c4
  rw [← hbp, ← hb8, ← hb7, ← hbf, ← hb5]
  rw [show w.heap.size = b4 from hb4.symm]
  obtain ⟨n0, hn0⟩ : ∃ z, z = W0.heap.size := ⟨_, rfl⟩
  have hPK : PlK n0 bf W0 s n V := by
    obtain ⟨b, o, rfl, hbz, -⟩ := HR.out 0 (by omega)
    refine ⟨b, o, rfl, by omega, by omega, fun j hj => ?_⟩
    obtain ⟨b', o', e, hz, hc⟩ := HR.out j hj
    cases e
    exact (B0.cell (p := ⟨b, o + j, none⟩) hz).trans hc
  have HB0 : Hid (Below w.heap.size w W0) := B0
  have HT0 : Hid (TabL n0 bf W0 n (etR V (pls ([] : List (Pce n)))) W0) := ⟨KpB.refl _ _ _, fun j hj => ⟨none, 0, cf j hj, .inl ⟨rfl, rfl, rfl⟩⟩, ff, by omega⟩
  have C4 : Hid (W0.cell? ⟨b4, 0, none⟩ = some (.func (.func 40) #[] #[])) := c4
  have C5 : Hid (W0.cell? ⟨b5, 0, none⟩ = some (.func (.func 41) #[] #[])) := c5
  have C7 : Hid (W0.cell? ⟨b7, 0, none⟩ = some (.slice (some ⟨bf, 0, none⟩) n n)) := c7
  have C8 : Hid (W0.cell? ⟨b8, 0, none⟩ = some (.func (.func 59) #[] #[.pointer (some ⟨b4, 0, none⟩), .pointer (some ⟨b7, 0, none⟩)])) := c8
  have l4 : b4 < n0 ∧ b4 ≠ bf := by omega
  have l5 : b5 < n0 ∧ b5 ≠ bf := by omega
  have l7 : b7 < n0 ∧ b7 ≠ bf := by omega
  have l8 : b8 < n0 ∧ b8 ≠ bf := by omega
  have lf : bf < n0 := by omega
  have lb : w.heap.size ≤ bf := by omega
  have ln : w.heap.size ≤ n0 := by omega
  have HSQ := fromLast_stops (3 - 1) n V n0 bf bp s c W0 (by omega) hn h40 (by omega) (by omega) (by omega) cp hPK
  rw [hn0] at HSQ
  clear hW0 hbp hb8 hb7 hbf hb5 hb4 c4 c5 c7 c8 cf ff hPK cp hmk sto sto2
  refine wpIn_rangeFunc_ownH rfl (by omega) (gf := 65) (lb := #[.pointer (some ⟨bp, 0, none⟩)]) rfl trivial (enters_of Try.func65 (by kernel_rfl) rfl) HSQ (fun h g => h.trans g) (fun W l o o' hl h1 h2 h3 => KpB.put (Nat.le_refl _) W l o o' hl h1 h2 h3) (Below.refl _ _) (fun _ => rfl)
    (fun pre W => TabL n0 bf W0 n (etR V (pls pre)) W ∧ Below w.heap.size w W)
    (fun _ _ _ => False)
    (OwnFrom.and (by rw [← hn0]; exact TabL.own (fun pre => etR V (pls pre)) lf) (ownFrom_below (Nat.le_refl _) (by omega)))
    (fun _ _ _ _ _ hs _ _ => hs)
    ⟨HT0.out, HB0.out⟩
    (fun x a' W => ∃ Bx, n0 ≤ Bx ∧ (W.cell? ⟨Bx, 3, none⟩ = some (.int .i64 (V (x.1 * 5 + 3))) ∧ W.cell? ⟨Bx, 4, none⟩ = some (.int .i64 (V (x.1 * 5 + 4)))) ∧ a' = { tmps := #[.slice s n c, (.func (.func 40) #[] #[]), (.func (.func 41) #[] #[]), undef, .pointer (some ⟨b4, 0, none⟩), .pointer (some ⟨b5, 0, none⟩), .slice none 0 0, .pointer (some ⟨b7, 0, none⟩), .pointer (some ⟨b8, 0, none⟩), .int .i64 (x.1 : Int), .pointer (some ⟨Bx, 0, none⟩), .slice s n c, .int .i64 (n : Int), .slice (some ⟨bf, 0, none⟩) n n, (.func (.func 59) #[] #[.pointer (some ⟨b4, 0, none⟩), .pointer (some ⟨b7, 0, none⟩)]), .slice s n c, .func (.func 65) #[] #[.pointer (some ⟨bp, 0, none⟩)], .int .i64 (x.1 : Int), .agg #[.int .i64 (V (x.1 * 5)), .int .i64 (V (x.1 * 5 + 1)), .int .i64 (V (x.1 * 5 + 2)), .int .i64 (V (x.1 * 5 + 3)), .int .i64 (V (x.1 * 5 + 4))], undef, undef, undef, undef, undef, undef, undef, undef, undef, undef, undef, undef, undef, undef, undef], defers := [] })
    (fun x a' => Own.from (fun _ A B row hs hg hr => by
      obtain ⟨Bx, h0, ⟨h1, h2⟩, h3⟩ := hs
      exact ⟨Bx, h0, ⟨cell_kept h1 hg hr, cell_kept h2 hg hr⟩, h3⟩) _)
    ?assign ?body ?done ?stop
  case assign =>
    rintro l pre x W K ⟨hT, hB⟩ hK
    dsimp only [encS]
    gi_wp2
    refine hK _ _ (keepsFrom_below (below0 _ _)) (KpB.below ((below0 W _).mono (by have := hT.2.2.2; omega))) ⟨hT.below (below0 _ _) lf, hB.trans ((below0 W _).mono hB.size)⟩ ⟨W.heap.size, hT.2.2.2, ⟨by simp [go_sem], by simp [go_sem]⟩, rfl⟩
  case body =>
    rintro l pre x a' W hl ⟨rr, hrr⟩ ⟨hT, hB⟩ ⟨Bx, hBx, ⟨x3, x4⟩, rfl⟩ hlt
    have nbx : Bx ≠ bf := by omega
    have zW : n0 ≤ W.heap.size := hT.2.2.2
    obtain ⟨p, hpn⟩ := x
    have HTB : Hid (TabL n0 bf W0 n (etR V (pls pre)) W) := hT
    have HB : Hid (Below w.heap.size w W) := hB
    have hpi : (p : Int) < (n : Int) := by omega
    have hpn2 : (p : Int) ≤ 40 := by omega
    have hKW := hT.1
    have c5 := (hKW.cell (p := ⟨b5, 0, none⟩) l5.1 l5.2).trans C5.out
    have c7 := (hKW.cell (p := ⟨b7, 0, none⟩) l7.1 l7.2).trans C7.out
    have c8 := (hKW.cell (p := ⟨b8, 0, none⟩) l8.1 l8.2).trans C8.out
    have to3 := pln_to hp hpn 3 (.inl rfl)
    have to4 := pln_to hp hpn 4 (.inr rfl)
    have hg3 := (gL_good (et_good V (pls pre)) (V (p * 5 + 3))).len
    have hg4 := (gL_good (et_good V (pls pre)) (V (p * 5 + 4))).len
    obtain ⟨X3, hX3⟩ : ∃ z, V (p * 5 + 3) = z := ⟨_, rfl⟩
    obtain ⟨X4, hX4⟩ : ∃ z, V (p * 5 + 4) = z := ⟨_, rfl⟩
    have HV : Hid (endS V (etR V (pls pre)) p = jn (gL (etR V (pls pre)) X3) (gL (etR V (pls pre)) X4)) := by show _ = _; unfold endS; rw [hX3, hX4]
    rw [hX3] at to3 hg3 x3
    rw [hX4] at to4 hg4 x4
    have HF : Hid (∀ v0, TabL n0 bf W0 n (etR V (pls pre)) v0 → (Calls Try.prog 59 #[.int .i64 X3, .pointer (some ⟨b4, 0, none⟩), .pointer (some ⟨b7, 0, none⟩)] v0 fun e w' => FaPost n0 (gL (etR V (pls pre)) X3) v0 e w') ∧ (Calls Try.prog 59 #[.int .i64 X4, .pointer (some ⟨b4, 0, none⟩), .pointer (some ⟨b7, 0, none⟩)] v0 fun e w' => FaPost n0 (gL (etR V (pls pre)) X4) v0 e w')) := fun v0 hT0 => by
      have k4 := (hT0.1.cell (p := ⟨b4, 0, none⟩) l4.1 l4.2).trans C4.out
      have k7 := (hT0.1.cell (p := ⟨b7, 0, none⟩) l7.1 l7.2).trans C7.out
      refine ⟨foundAtE n0 b4 b7 bf n _ X3 v0 h40 hT0.2.2.2 k4 k7 hT0.2.1 ?_, foundAtE n0 b4 b7 bf n _ X4 v0 h40 hT0.2.2.2 k4 k7 hT0.2.1 ?_⟩
      · rcases to3 with q | q
        · exact .inl q.1
        · exact .inr ⟨q.1, by omega, by omega⟩
      · rcases to4 with q | q
        · exact .inl q.1
        · exact .inr ⟨q.1, by omega, by omega⟩
    obtain ⟨G3, hG3⟩ : ∃ z, gL (etR V (pls pre)) X3 = z := ⟨_, rfl⟩
    obtain ⟨G4, hG4⟩ : ∃ z, gL (etR V (pls pre)) X4 = z := ⟨_, rfl⟩
    rw [hG3] at HV HF hg3
    rw [hG4] at HV HF hg4
    have zx : Bx < W.heap.size := cell_lt x3
    have zfW : bf < W.heap.size := Nat.lt_of_lt_of_le lf hT.2.2.2
    have stoS := store_slB
    clear to3 to4 hX3 hX4 hG3 hG4 hT hB hKW
    gi_wp2
    refine wpIn_region_round (hL := fun ⟨_, _, h⟩ => h) (hd := by kernel_rfl) (S := fun w' => w'.cell? ⟨b7, 0, none⟩ = some (.slice (some ⟨bf, 0, none⟩) n n) ∧ w'.cell? ⟨b5, 0, none⟩ = some (.func (.func 41) #[] #[]) ∧ w'.cell? ⟨b8, 0, none⟩ = some (.func (.func 59) #[] #[.pointer (some ⟨b4, 0, none⟩), .pointer (some ⟨b7, 0, none⟩)]) ∧ w'.cell? ⟨Bx, 3, none⟩ = some (.int .i64 X3) ∧ w'.cell? ⟨Bx, 4, none⟩ = some (.int .i64 X4)) (by kernel_rfl) ?_ (fun hHeld => ?_)
    · exact ⟨by simpa [go_sem] using c7, by simpa [go_sem] using c5, by simpa [go_sem] using c8, by simpa [go_sem] using x3, by simpa [go_sem] using x4⟩
    obtain ⟨v0, hv0⟩ : ∃ z, z = W.drew := ⟨_, rfl⟩
    try rw [← hv0] at hHeld
    rw [← hv0]
    have bv0 : Below W.heap.size W v0 := by rw [hv0]; exact Below.drew (Below.refl _ _)
    clear hv0
    have HTV : Hid (TabL n0 bf W0 n (etR V (pls pre)) v0) := HTB.out.below bv0 lf
    have BV0 : Hid (Below W.heap.size W v0) := bv0
    clear c5 c7 c8 x3 x4 bv0 HTB
    refine wpAnyH_take (i := 0) (v := .slice (some ⟨bf, 0, none⟩) n n) rfl (by kernel_rfl) (by kernel_rfl) (by kernel_rfl) (fun _ _ _ h => h) (Or.inl ⟨by kernel_rfl, ?_⟩) hHeld ?_
    · intro w' hSw
      obtain ⟨s0_, s1_, s2_, s3_, s4_⟩ := hSw
      first | (go_simp; done) | (go_simp; with_reducible rfl) | (go_simp; rw [IntKind.wrap_i64]; omega) | (go_simp; omega)
    simp only [Act.put, List.setIfInBounds_toArray, List.set_cons_zero, List.set_cons_succ]
    refine wpAnyH_take (i := 1) (v := .int .i64 (p : Int)) rfl (by kernel_rfl) (by kernel_rfl) (by kernel_rfl) (fun _ _ _ h => h) (Or.inl ⟨by kernel_rfl, ?_⟩) hHeld ?_
    · intro w' hSw
      obtain ⟨s0_, s1_, s2_, s3_, s4_⟩ := hSw
      first | (go_simp; done) | (go_simp; with_reducible rfl) | (go_simp; rw [IntKind.wrap_i64]; omega) | (go_simp; omega)
    simp only [Act.put, List.setIfInBounds_toArray, List.set_cons_zero, List.set_cons_succ]
    refine wpAnyH_take (i := 2) (v := .func (.func 41) #[] #[]) rfl (by kernel_rfl) (by kernel_rfl) (by kernel_rfl) (fun _ _ _ h => h) (Or.inl ⟨by kernel_rfl, ?_⟩) hHeld ?_
    · intro w' hSw
      obtain ⟨s0_, s1_, s2_, s3_, s4_⟩ := hSw
      first | (go_simp; done) | (go_simp; with_reducible rfl) | (go_simp; rw [IntKind.wrap_i64]; omega) | (go_simp; omega)
    simp only [Act.put, List.setIfInBounds_toArray, List.set_cons_zero, List.set_cons_succ]
    refine wpAnyH_take (i := 3) (v := .int .i64 (p : Int)) rfl (by kernel_rfl) (by kernel_rfl) (by kernel_rfl) (fun _ _ _ h => h) (Or.inl ⟨by kernel_rfl, ?_⟩) hHeld ?_
    · intro w' hSw
      obtain ⟨s0_, s1_, s2_, s3_, s4_⟩ := hSw
      first | (go_simp; done) | (go_simp; with_reducible rfl) | (go_simp; rw [IntKind.wrap_i64]; omega) | (go_simp; omega)
    simp only [Act.put, List.setIfInBounds_toArray, List.set_cons_zero, List.set_cons_succ]
    refine wpAnyH_take (i := 4) (v := .func (.func 59) #[] #[.pointer (some ⟨b4, 0, none⟩), .pointer (some ⟨b7, 0, none⟩)]) rfl (by kernel_rfl) (by kernel_rfl) (by kernel_rfl) (fun _ _ _ h => h) (Or.inl ⟨by kernel_rfl, ?_⟩) hHeld ?_
    · intro w' hSw
      obtain ⟨s0_, s1_, s2_, s3_, s4_⟩ := hSw
      first | (go_simp; done) | (go_simp; with_reducible rfl) | (go_simp; rw [IntKind.wrap_i64]; omega) | (go_simp; omega)
    simp only [Act.put, List.setIfInBounds_toArray, List.set_cons_zero, List.set_cons_succ]
    refine wpAnyH_take (i := 5) (v := .pointer (some ⟨Bx, 3, none⟩)) rfl (by kernel_rfl) (by kernel_rfl) (by kernel_rfl) (fun _ _ _ h => h) (Or.inl ⟨by kernel_rfl, ?_⟩) hHeld ?_
    · intro w' hSw
      obtain ⟨s0_, s1_, s2_, s3_, s4_⟩ := hSw
      first | (go_simp; done) | (go_simp; with_reducible rfl) | (go_simp; rw [IntKind.wrap_i64]; omega) | (go_simp; omega)
    simp only [Act.put, List.setIfInBounds_toArray, List.set_cons_zero, List.set_cons_succ]
    refine wpAnyH_take (i := 6) (v := .int .i64 X3) rfl (by kernel_rfl) (by kernel_rfl) (by kernel_rfl) (fun _ _ _ h => h) (Or.inl ⟨by kernel_rfl, ?_⟩) hHeld ?_
    · intro w' hSw
      obtain ⟨s0_, s1_, s2_, s3_, s4_⟩ := hSw
      first | (go_simp; done) | (go_simp; with_reducible rfl) | (go_simp; rw [IntKind.wrap_i64]; omega) | (go_simp; omega)
    simp only [Act.put, List.setIfInBounds_toArray, List.set_cons_zero, List.set_cons_succ]
    refine wpAnyH_take (i := 8) (v := .func (.func 59) #[] #[.pointer (some ⟨b4, 0, none⟩), .pointer (some ⟨b7, 0, none⟩)]) rfl (by kernel_rfl) (by kernel_rfl) (by kernel_rfl) (fun _ _ _ h => h) (Or.inl ⟨by kernel_rfl, ?_⟩) hHeld ?_
    · intro w' hSw
      obtain ⟨s0_, s1_, s2_, s3_, s4_⟩ := hSw
      first | (go_simp; done) | (go_simp; with_reducible rfl) | (go_simp; rw [IntKind.wrap_i64]; omega) | (go_simp; omega)
    simp only [Act.put, List.setIfInBounds_toArray, List.set_cons_zero, List.set_cons_succ]
    refine wpAnyH_take (i := 9) (v := .pointer (some ⟨Bx, 4, none⟩)) rfl (by kernel_rfl) (by kernel_rfl) (by kernel_rfl) (fun _ _ _ h => h) (Or.inl ⟨by kernel_rfl, ?_⟩) hHeld ?_
    · intro w' hSw
      obtain ⟨s0_, s1_, s2_, s3_, s4_⟩ := hSw
      first | (go_simp; done) | (go_simp; with_reducible rfl) | (go_simp; rw [IntKind.wrap_i64]; omega) | (go_simp; omega)
    simp only [Act.put, List.setIfInBounds_toArray, List.set_cons_zero, List.set_cons_succ]
    refine wpAnyH_take (i := 10) (v := .int .i64 X4) rfl (by kernel_rfl) (by kernel_rfl) (by kernel_rfl) (fun _ _ _ h => h) (Or.inl ⟨by kernel_rfl, ?_⟩) hHeld ?_
    · intro w' hSw
      obtain ⟨s0_, s1_, s2_, s3_, s4_⟩ := hSw
      first | (go_simp; done) | (go_simp; with_reducible rfl) | (go_simp; rw [IntKind.wrap_i64]; omega) | (go_simp; omega)
    simp only [Act.put, List.setIfInBounds_toArray, List.set_cons_zero, List.set_cons_succ]
    refine wpAnyH_ready (rs := [7]) (by kernel_rfl) (by simp) ?_
    refine (AllReadyH.cons rfl (fun KK hK => ?_) AllReadyH.nil)
    go_simp
    go_wp2_with (first | (refine ((HF.out _ HTV.out).1).mono ?_; intro e v0_1 hFa; unfold FaPost at hFa; obtain ⟨t3, c3, rfl, hl3, b9⟩ := hFa))
    have hH9 : v0_1.cell? ⟨b7, 0, none⟩ = some (.slice (some ⟨bf, 0, none⟩) n n) ∧ v0_1.cell? ⟨b5, 0, none⟩ = some (.func (.func 41) #[] #[]) ∧ v0_1.cell? ⟨b8, 0, none⟩ = some (.func (.func 59) #[] #[.pointer (some ⟨b4, 0, none⟩), .pointer (some ⟨b7, 0, none⟩)]) ∧ v0_1.cell? ⟨Bx, 3, none⟩ = some (.int .i64 X3) ∧ v0_1.cell? ⟨Bx, 4, none⟩ = some (.int .i64 X4) := ⟨(b9.cell (p := ⟨b7, 0, none⟩) (cell_lt hHeld.1)).trans hHeld.1, (b9.cell (p := ⟨b5, 0, none⟩) (cell_lt hHeld.2.1)).trans hHeld.2.1, (b9.cell (p := ⟨b8, 0, none⟩) (cell_lt hHeld.2.2.1)).trans hHeld.2.2.1, (b9.cell (p := ⟨Bx, 3, none⟩) (cell_lt hHeld.2.2.2.1)).trans hHeld.2.2.2.1, (b9.cell (p := ⟨Bx, 4, none⟩) (cell_lt hHeld.2.2.2.2)).trans hHeld.2.2.2.2⟩
    replace HTV : Hid (TabL n0 bf W0 n (etR V (pls pre)) v0_1) := HTV.out.below b9 lf
    replace BV0 : Hid (Below W.heap.size W v0_1) := BV0.out.trans (b9.mono BV0.out.size)
    skip
    have HL3 : Hid (LstF n0 v0_1 t3 c3 G3) := hl3
    clear b9 hl3
    refine hK.out _ _ (hH9) (fun hHeld => ?_)
    clear hK KK
    refine wpAnyH_ready (rs := [11]) (by kernel_rfl) (by simp) ?_
    refine (AllReadyH.cons rfl (fun KK hK => ?_) AllReadyH.nil)
    go_simp
    go_wp2_with (first | (refine ((HF.out _ HTV.out).2).mono ?_; intro e v0_2 hFa; unfold FaPost at hFa; obtain ⟨t4, c4, rfl, hl4, b9⟩ := hFa))
    have hH9 : v0_2.cell? ⟨b7, 0, none⟩ = some (.slice (some ⟨bf, 0, none⟩) n n) ∧ v0_2.cell? ⟨b5, 0, none⟩ = some (.func (.func 41) #[] #[]) ∧ v0_2.cell? ⟨b8, 0, none⟩ = some (.func (.func 59) #[] #[.pointer (some ⟨b4, 0, none⟩), .pointer (some ⟨b7, 0, none⟩)]) ∧ v0_2.cell? ⟨Bx, 3, none⟩ = some (.int .i64 X3) ∧ v0_2.cell? ⟨Bx, 4, none⟩ = some (.int .i64 X4) := ⟨(b9.cell (p := ⟨b7, 0, none⟩) (cell_lt hHeld.1)).trans hHeld.1, (b9.cell (p := ⟨b5, 0, none⟩) (cell_lt hHeld.2.1)).trans hHeld.2.1, (b9.cell (p := ⟨b8, 0, none⟩) (cell_lt hHeld.2.2.1)).trans hHeld.2.2.1, (b9.cell (p := ⟨Bx, 3, none⟩) (cell_lt hHeld.2.2.2.1)).trans hHeld.2.2.2.1, (b9.cell (p := ⟨Bx, 4, none⟩) (cell_lt hHeld.2.2.2.2)).trans hHeld.2.2.2.2⟩
    replace HTV : Hid (TabL n0 bf W0 n (etR V (pls pre)) v0_2) := HTV.out.below b9 lf
    replace BV0 : Hid (Below W.heap.size W v0_2) := BV0.out.trans (b9.mono BV0.out.size)
    replace HL3 : Hid (LstF n0 v0_2 t3 c3 G3) := HL3.out.below b9
    have HL4 : Hid (LstF n0 v0_2 t4 c4 G4) := hl4
    clear b9 hl4
    refine hK.out _ _ (hH9) (fun hHeld => ?_)
    clear hK KK
    refine wpAnyH_ready (rs := [12]) (by kernel_rfl) (by simp) ?_
    refine (AllReadyH.cons rfl (fun KK hK => ?_) AllReadyH.nil)
    go_simp
    go_wp2_with (first | (refine (ofStepE (p : Int) t3 t4 c3 c4 G3 G4 _ (by omega) (by omega) HL3.out.plain HL4.out.plain).mono ?_; intro e v0_3 hJn; unfold JnPost at hJn; obtain ⟨t5, c5, rfl, hl5, b9⟩ := hJn))
    have hH9 : v0_3.cell? ⟨b7, 0, none⟩ = some (.slice (some ⟨bf, 0, none⟩) n n) ∧ v0_3.cell? ⟨b5, 0, none⟩ = some (.func (.func 41) #[] #[]) ∧ v0_3.cell? ⟨b8, 0, none⟩ = some (.func (.func 59) #[] #[.pointer (some ⟨b4, 0, none⟩), .pointer (some ⟨b7, 0, none⟩)]) ∧ v0_3.cell? ⟨Bx, 3, none⟩ = some (.int .i64 X3) ∧ v0_3.cell? ⟨Bx, 4, none⟩ = some (.int .i64 X4) := ⟨(b9.cell (p := ⟨b7, 0, none⟩) (cell_lt hHeld.1)).trans hHeld.1, (b9.cell (p := ⟨b5, 0, none⟩) (cell_lt hHeld.2.1)).trans hHeld.2.1, (b9.cell (p := ⟨b8, 0, none⟩) (cell_lt hHeld.2.2.1)).trans hHeld.2.2.1, (b9.cell (p := ⟨Bx, 3, none⟩) (cell_lt hHeld.2.2.2.1)).trans hHeld.2.2.2.1, (b9.cell (p := ⟨Bx, 4, none⟩) (cell_lt hHeld.2.2.2.2)).trans hHeld.2.2.2.2⟩
    have HL5 : Hid (LstF n0 v0_3 t5 c5 (jn G3 G4)) := hl5.low HTV.out.2.2.2
    replace HTV : Hid (TabL n0 bf W0 n (etR V (pls pre)) v0_3) := HTV.out.below b9 lf
    replace BV0 : Hid (Below W.heap.size W v0_3) := BV0.out.trans (b9.mono BV0.out.size)
    have cfv := (HTV.out.2.1 p hpn)
    obtain ⟨tq, cq, cfq, -⟩ := cfv
    have ffv : v0_3.frozen? ⟨bf, p, none⟩ = false := HTV.out.2.2.1 p
    have cfs : (v0_3.cell? ⟨bf, p, none⟩).isSome = true := by rw [cfq]; rfl
    clear b9 hl5
    refine hK.out _ _ (hH9) (fun hHeld => ?_)
    clear hK KK
    refine wpAnyH_take (i := 13) (v := .pointer (some ⟨bf, p, none⟩)) rfl (by kernel_rfl) (by kernel_rfl) (by kernel_rfl) (fun _ _ _ h => h) (Or.inl ⟨by kernel_rfl, ?_⟩) hHeld ?_
    · intro w' hSw
      obtain ⟨s0_, s1_, s2_, s3_, s4_⟩ := hSw
      first | (go_simp; done) | (go_simp; with_reducible rfl) | (go_simp; rw [IntKind.wrap_i64]; omega) | (go_simp; omega)
    simp only [Act.put, List.setIfInBounds_toArray, List.set_cons_zero, List.set_cons_succ]
    refine wpAnyH_ready (rs := [14]) (by kernel_rfl) (by simp) ?_
    refine (AllReadyH.cons rfl (fun KK hK => ?_) AllReadyH.nil)
    go_simp
    obtain ⟨v0_4, hV_⟩ : ∃ z, z = v0_3.setCell ⟨bf, p, none⟩ (.slice t5 (jn G3 G4).length c5) := ⟨_, rfl⟩
    rw [← hV_]
    have HT9 : Hid (TabL n0 bf W0 n (etR V (pls (pre ++ [⟨p, hpn⟩]))) v0_4) := by
      show TabL _ _ _ _ _ _
      rw [hV_, pls_snoc]
      show TabL n0 bf W0 n (updL (etR V (pls pre)) p (endS V (etR V (pls pre)) p)) _
      rw [HV.out]
      exact HTV.out.set lf hpn HL5.out
    have BS9 : Hid (Beside bf v0_3 v0_4) := by show Beside _ _ _; rw [hV_]; exact Beside.setCell bf _ _ _
    clear hV_
    refine hK.out _ _ (⟨(BS9.out.cell (p := ⟨b7, 0, none⟩) (cell_lt hHeld.1) l7.2).trans hHeld.1, (BS9.out.cell (p := ⟨b5, 0, none⟩) (cell_lt hHeld.2.1) l5.2).trans hHeld.2.1, (BS9.out.cell (p := ⟨b8, 0, none⟩) (cell_lt hHeld.2.2.1) l8.2).trans hHeld.2.2.1, (BS9.out.cell (p := ⟨Bx, 3, none⟩) (cell_lt hHeld.2.2.2.1) nbx).trans hHeld.2.2.2.1, (BS9.out.cell (p := ⟨Bx, 4, none⟩) (cell_lt hHeld.2.2.2.2) nbx).trans hHeld.2.2.2.2⟩) (fun hHeld => ?_)
    clear hK KK
    refine wpAnyH_done (by kernel_rfl) ?_ _
    clear hHeld
    have b1 : Below w.heap.size w v0_4 := HB.out.trans ((BV0.out.mono HB.out.size).trans (BS9.out.below lb (Nat.le_trans HB.out.size BV0.out.size)))
    exact ⟨(keepsFrom_below BV0.out).trans (keepsFrom_beside BS9.out (by omega)), (KpB.below (BV0.out.mono (by omega))).trans (KpB.beside BS9.out (by have := BV0.out.size; omega)), ⟨HT9.out, b1⟩⟩
  case done =>
    rintro D xs W hD rfl ⟨hT, hB⟩ hK
    have c7 := (hT.1.cell (p := ⟨b7, 0, none⟩) l7.1 l7.2).trans C7.out
    gi_wp2
    refine ⟨by simp, .inl ⟨_, _, rfl, run_takeDeferred hK, ?_⟩⟩
    refine ⟨_, results_tmp rfl _ _ _, bf, rfl, fun j hj => ?_, hB.trans (belowK_b (w := w) (Nat.le_refl _) W D _ _ (by omega) hK rfl rfl)⟩
    obtain ⟨t, c, h1, h2⟩ := hT.2.1 j hj
    refine ⟨t, c, cell_kept h1 (grownBy_putObj' _ D (.deferred none)) (fun r e => by cases e; exact ⟨_, hK, rfl⟩), ?_⟩
    rcases h2.low ln with h2 | ⟨h0, g, e, hg0, hgz, hc, hfz⟩
    · exact .inl h2
    · have h00 : 0 < (etR V (pls (dA n hn n)) j).length := List.length_pos_iff.2 h0
      exact .inr ⟨h0, g, e, hg0, by simpa [World.putObj] using hgz, fun i hi => cell_kept (hc i hi) (grownBy_putObj' _ D (.deferred none)) (fun r e => by cases e; exact ⟨_, hK, rfl⟩), fun i => by
        obtain ⟨oo, ho, hcl⟩ := cells_of_cell (hc 0 h00)
        exact (World.frozen?_of_block (a := ⟨g, i, none⟩) (grownBy_keeps_cells (grownBy_putObj' _ D (.deferred none)) (fun r e => by cases e; exact ⟨_, hK, rfl⟩) ho hcl)).trans (hfz i)⟩
  case stop =>
    rintro D c pre W _ _ h _
    exact h.elim
end Go.Proofs.Ytlkegoofpmgcjaa
