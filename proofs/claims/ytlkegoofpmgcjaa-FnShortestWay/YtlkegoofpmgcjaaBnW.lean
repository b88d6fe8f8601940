/-
What is proved: the longest times of all steps, worked back from the last one by a range over a function.
-/
import Derived.Test.YtlkegoofpmgcjaaBnX
namespace Go.Proofs.Ytlkegoofpmgcjaa
set_option maxRecDepth 40000
open Go.ChangeShapes Go.WideShapes Go.ChangeAt Go.RowKit
set_option linter.unusedVariables false
set_option linter.unusedSimpArgs false

open Go.Shelf
attribute [local go_sem] Oper.semAt_some
/-- Between two rounds: all but the found table lies as it lay, the table holds T. -/
theorem ofMode0 (x : Int) (w : World) : Calls Try.prog 49 #[.int .i64 x] w fun e w' => e = .returned (.int .i64 0) ∧ w' = w := by
  go_enter Try.func49, Try.ntmps49
  go_wp2
  go_ret
  exact ⟨rfl, rfl⟩
theorem ofStep0 (pb g o n c p : Nat) (a b L : Int) (w : World) (hp : (p : Int) < (n : Int)) (hn : (n : Int) ≤ 40) (h0 : w.cell? ⟨pb, 0, none⟩ = some (.slice (some ⟨g, o, none⟩) n c)) (h1 : w.cell? ⟨g, o + p * 5 + 2, none⟩ = some (.int .i64 L)) (a0 : 0 ≤ a ∧ a ≤ 40000) (b0 : 0 ≤ b ∧ b ≤ 40000) (l0 : 1 ≤ L ∧ L ≤ 1000) :
    Calls Try.prog 50 #[.int .i64 (p : Int), .int .i64 a, .int .i64 b, .pointer (some ⟨pb, 0, none⟩)] w fun e w' => e = .returned (.int .i64 (L + max a b)) ∧ w' = w := by
  obtain ⟨m, hm⟩ : ∃ m, (if a < b then b else a) = m := ⟨_, rfl⟩
  have m0 : 0 ≤ m ∧ m ≤ 40000 := by rw [← hm]; split <;> omega
  have em : max a b = m := (max_if a b).symm.trans hm
  rw [em]
  clear em
  go_enter Try.func50, Try.ntmps50
  go_wp2
  all_goals
    go_ret
    exact ⟨rfl, rfl⟩
theorem foundAt0 (bm bg bf n : Nat) (T : Nat → Int) (x : Int) (w : World) (hn : (n : Int) ≤ 40) (h0 : w.cell? ⟨bm, 0, none⟩ = some (.func (.func 49) #[] #[])) (h1 : w.cell? ⟨bg, 0, none⟩ = some (.slice (some ⟨bf, 0, none⟩) n n)) (h2 : ∀ j, j < n → w.cell? ⟨bf, j, none⟩ = some (.int .i64 (T j))) (hx : (modB x = true) ∨ (modB x = false ∧ 0 ≤ x ∧ x < n)) :
    Calls Try.prog 62 #[.int .i64 x, .pointer (some ⟨bm, 0, none⟩), .pointer (some ⟨bg, 0, none⟩)] w fun e w' => e = .returned (.int .i64 (gAt T x)) ∧ w' = w := by
  rcases hx with hx | ⟨hx, x0, x1⟩
  · have hg : gAt T x = 0 := by unfold gAt; rw [if_pos hx]
    rw [hg]
    clear h1 h2
    go_enter Try.func62, Try.ntmps62
    go_wp2_with fail
    refine (isMode_any x w).mono ?_
    rintro e w1 ⟨rfl, rfl⟩
    rw [hx]
    go_wp2_with fail
    refine (ofMode0 x w1).mono ?_
    rintro e w2 ⟨rfl, rfl⟩
    go_wp2
    go_ret
    exact ⟨rfl, rfl⟩
  · obtain ⟨k, rfl⟩ : ∃ k : Nat, x = (k : Int) := ⟨x.toNat, by omega⟩
    have hg : gAt T (k : Int) = T k := by unfold gAt; rw [if_neg (by rw [hx]; simp)]; simp
    rw [hg]
    have h3 := h2 k (by omega)
    clear h2 hg
    go_enter Try.func62, Try.ntmps62
    go_wp2_with fail
    refine (isMode_any (k : Int) w).mono ?_
    rintro e w1 ⟨rfl, rfl⟩
    rw [hx]
    go_wp2
    go_ret
    exact ⟨rfl, rfl⟩
set_option maxRecDepth 20000 in
set_option maxHeartbeats 4000000 in
theorem worked_any (s : Option Addr) (n c : Nat) (V : Nat → Int) (pb : Nat) (w : World) (hn : 0 < n) (h40 : (n : Int) ≤ 40) (hp : planB n V = true) (HR : Hid (RowI w s (n * 5) V)) (hpb : w.cell? ⟨pb, 0, none⟩ = some (.slice s n c)) :
    Calls Try.prog 48 #[.slice s n c, (.func (.func 49) #[] #[]), .func (.func 50) #[] #[.pointer (some ⟨pb, 0, none⟩)]] w fun e w' => ∃ bf, e = .returned (.slice (some ⟨bf, 0, none⟩) n n) ∧ (∀ j, j < n → w'.cell? ⟨bf, j, none⟩ = some (.int .i64 (tabR V (pls (dA n hn n)) j))) ∧ Below w.heap.size w w' := by
  have hmk := make_i64w n (by omega)
  have sto := store_fnB
  have sto2 := store_slB
  refine (callsIn_wide (n := 3)).1 ?_
  refine callsIn_of_wp_marks Try.func48 rfl trivial ?_ rfl
  simp only [Try.ntmps48, List.size_toArray, List.length_cons, List.length_nil, Nat.reduceAdd, Nat.reduceSub, Array.replicate_succ, Array.replicate_zero, List.push_toArray, List.append_toArray, List.nil_append, List.cons_append]
  gi_wp2_with (refine ⟨trivial, ?_⟩; gi_at_call 56; refine (callsIn_wide.2 (fromLast_any _ _ _ _)).mono ?_; rintro e w' ⟨rfl, rfl⟩)
  obtain ⟨W0, hW0⟩ : ∃ z, z = ((((((w.alloc (.cells #[(.func (.func 49) #[] #[])] 70)).alloc (.cells #[(.func (.func 50) #[] #[.pointer (some ⟨pb, 0, none⟩)])] 71)).alloc (.cells (madeCells #[.int .i64 0] n) 2)).alloc (.cells #[.slice (some ⟨w.heap.size + 1 + 1, 0, none⟩) n n] 27)).alloc (.cells #[.func (.func 62) #[] #[.pointer (some ⟨w.heap.size, 0, none⟩), .pointer (some ⟨w.heap.size + 1 + 1 + 1, 0, none⟩)]] 70)).alloc (.cells #[.slice s n c] 24)) := ⟨_, rfl⟩
  rw [← hW0]
  have B0 : Below w.heap.size w W0 := by rw [hW0]; exact (by repeat (first | with_reducible exact Below.refl _ _ | with_reducible refine Below.setCell ?_ (by first | omega | (simp; done) | (simp; omega)) _ | with_reducible refine bDrewN ?_ _ | with_reducible refine Below.drew ?_ | with_reducible refine Below.alloc ?_ (by first | omega | (simp; done) | (simp; omega)) _))
  have c4 : W0.cell? ⟨w.heap.size, 0, none⟩ = some (.func (.func 49) #[] #[]) := by rw [hW0]; simp [go_sem]
  have c5 : W0.cell? ⟨w.heap.size + 1, 0, none⟩ = some (.func (.func 50) #[] #[.pointer (some ⟨pb, 0, none⟩)]) := by rw [hW0]; simp (maxDischargeDepth := 12) [go_sem]
  have c7 : W0.cell? ⟨w.heap.size + 1 + 1 + 1, 0, none⟩ = some (.slice (some ⟨w.heap.size + 1 + 1, 0, none⟩) n n) := by rw [hW0]; simp (maxDischargeDepth := 12) [go_sem]
  have c8 : W0.cell? ⟨w.heap.size + 1 + 1 + 1 + 1, 0, none⟩ = some (.func (.func 62) #[] #[.pointer (some ⟨w.heap.size, 0, none⟩), .pointer (some ⟨w.heap.size + 1 + 1 + 1, 0, none⟩)]) := by rw [hW0]; simp (maxDischargeDepth := 12) [go_sem]
  have cp : W0.cell? ⟨w.heap.size + 1 + 1 + 1 + 1 + 1, 0, none⟩ = some (.slice s n c) := by rw [hW0]; simp (maxDischargeDepth := 12) [go_sem]
  have cf : ∀ j, j < n → W0.cell? ⟨w.heap.size + 1 + 1, j, none⟩ = some (.int .i64 0) := fun j hj => by
    rw [hW0]
    simp (maxDischargeDepth := 12) [go_sem, madeCells, hj]
    rw [Nat.mod_one]
    rfl
  have ff : ∀ j, W0.frozen? ⟨w.heap.size + 1 + 1, j, none⟩ = false := fun j => by
    rw [hW0]
    simp (maxDischargeDepth := 12) [go_sem]
  have sz : W0.heap.size = w.heap.size + 6 := by rw [hW0]; simp
  obtain ⟨bp, hbp⟩ : ∃ b, b = w.heap.size + 1 + 1 + 1 + 1 + 1 := ⟨_, rfl⟩
  obtain ⟨b8, hb8⟩ : ∃ b, b = w.heap.size + 1 + 1 + 1 + 1 := ⟨_, rfl⟩
  obtain ⟨b7, hb7⟩ : ∃ b, b = w.heap.size + 1 + 1 + 1 := ⟨_, rfl⟩
  obtain ⟨bf, hbf⟩ : ∃ b, b = w.heap.size + 1 + 1 := ⟨_, rfl⟩
  obtain ⟨b5, hb5⟩ : ∃ b, b = w.heap.size + 1 := ⟨_, rfl⟩
  obtain ⟨b4, hb4⟩ : ∃ b, b = w.heap.size := ⟨_, rfl⟩
  rw [← hbp] at cp
  rw [← hb8, ← hb7, ← hb4] at c8
  rw [← hb7, ← hbf] at c7
  rw [← hbf] at cf ff
  rw [← hb5] at c5
  rw [← hb4] at c4
  rw [← hbp, ← hb8, ← hb7, ← hbf, ← hb5]
  rw [show w.heap.size = b4 from hb4.symm]
  have hpz : pb < w.heap.size := cell_lt hpb
  have cpb : W0.cell? ⟨pb, 0, none⟩ = some (.slice s n c) := (B0.cell (p := ⟨pb, 0, none⟩) hpz).trans hpb
  obtain ⟨n0, hn0⟩ : ∃ z, z = W0.heap.size := ⟨_, rfl⟩
  have hPK : PlK n0 bf W0 s n V := by
    obtain ⟨b, o, rfl, hbz, -⟩ := HR.out 0 (by omega)
    refine ⟨b, o, rfl, by omega, by omega, fun j hj => ?_⟩
    obtain ⟨b', o', e, hz, hc⟩ := HR.out j hj
    cases e
    exact (B0.cell (p := ⟨b, o + j, none⟩) hz).trans hc
  have HB0 : Hid (Below w.heap.size w W0) := B0
  have HT0 : Hid (TabAt n0 bf W0 n (tabR V (pls ([] : List (Pce n)))) W0) := ⟨KpB.refl _ _ _, fun j hj => cf j hj, ff, by omega⟩
  have C4 : Hid (W0.cell? ⟨b4, 0, none⟩ = some (.func (.func 49) #[] #[])) := c4
  have C5 : Hid (W0.cell? ⟨b5, 0, none⟩ = some (.func (.func 50) #[] #[.pointer (some ⟨pb, 0, none⟩)])) := c5
  have C7 : Hid (W0.cell? ⟨b7, 0, none⟩ = some (.slice (some ⟨bf, 0, none⟩) n n)) := c7
  have C8 : Hid (W0.cell? ⟨b8, 0, none⟩ = some (.func (.func 62) #[] #[.pointer (some ⟨b4, 0, none⟩), .pointer (some ⟨b7, 0, none⟩)])) := c8
  have CPB : Hid (W0.cell? ⟨pb, 0, none⟩ = some (.slice s n c)) := cpb
  have HPK : Hid (PlK n0 bf W0 s n V) := hPK
  have l4 : b4 < n0 ∧ b4 ≠ bf := by omega
  have l5 : b5 < n0 ∧ b5 ≠ bf := by omega
  have l7 : b7 < n0 ∧ b7 ≠ bf := by omega
  have l8 : b8 < n0 ∧ b8 ≠ bf := by omega
  have lf : bf < n0 := by omega
  have lp : pb < n0 ∧ pb ≠ bf := by omega
  have lb : w.heap.size ≤ bf := by omega
  have ln : w.heap.size ≤ n0 := by omega
  have HSQ := fromLast_stops (3 - 1) n V n0 bf bp s c W0 (by omega) hn h40 (by omega) (by omega) (by omega) cp hPK
  rw [hn0] at HSQ
  clear hW0 hbp hb8 hb7 hbf hb5 hb4 c4 c5 c7 c8 cf ff cpb hPK cp hmk sto sto2
  refine wpIn_rangeFunc_ownH rfl (by omega) (gf := 65) (lb := #[.pointer (some ⟨bp, 0, none⟩)]) rfl trivial (enters_of Try.func65 (by kernel_rfl) rfl) HSQ (fun h g => h.trans g) (fun W l o o' hl h1 h2 h3 => KpB.put (Nat.le_refl _) W l o o' hl h1 h2 h3) (Below.refl _ _) (fun _ => rfl)
    (fun pre W => TabAt n0 bf W0 n (tabR V (pls pre)) W ∧ Below w.heap.size w W)
    (fun _ _ _ => False)
    (OwnFrom.and (by rw [← hn0]; exact TabAt.own (fun pre => tabR V (pls pre)) lf) (ownFrom_below (Nat.le_refl _) (by omega)))
    (fun _ _ _ _ _ hs _ _ => hs)
    ⟨HT0.out, HB0.out⟩
    (fun x a' W => ∃ Bx, n0 ≤ Bx ∧ (W.cell? ⟨Bx, 3, none⟩ = some (.int .i64 (V (x.1 * 5 + 3))) ∧ W.cell? ⟨Bx, 4, none⟩ = some (.int .i64 (V (x.1 * 5 + 4)))) ∧ a' = { tmps := #[.slice s n c, (.func (.func 49) #[] #[]), (.func (.func 50) #[] #[.pointer (some ⟨pb, 0, none⟩)]), undef, .pointer (some ⟨b4, 0, none⟩), .pointer (some ⟨b5, 0, none⟩), .slice none 0 0, .pointer (some ⟨b7, 0, none⟩), .pointer (some ⟨b8, 0, none⟩), .int .i64 (x.1 : Int), .pointer (some ⟨Bx, 0, none⟩), .slice s n c, .int .i64 (n : Int), .slice (some ⟨bf, 0, none⟩) n n, (.func (.func 62) #[] #[.pointer (some ⟨b4, 0, none⟩), .pointer (some ⟨b7, 0, none⟩)]), .slice s n c, .func (.func 65) #[] #[.pointer (some ⟨bp, 0, none⟩)], .int .i64 (x.1 : Int), .agg #[.int .i64 (V (x.1 * 5)), .int .i64 (V (x.1 * 5 + 1)), .int .i64 (V (x.1 * 5 + 2)), .int .i64 (V (x.1 * 5 + 3)), .int .i64 (V (x.1 * 5 + 4))], undef, undef, undef, undef, undef, undef, undef, undef, undef, undef, undef, undef, undef, undef, undef], defers := [] })
    (fun x a' => Own.from (fun _ A B row hs hg hr => by
      obtain ⟨Bx, h0, ⟨h1, h2⟩, h3⟩ := hs
      exact ⟨Bx, h0, ⟨cell_kept h1 hg hr, cell_kept h2 hg hr⟩, h3⟩) _)
    ?assign ?body ?done ?stop
  case assign =>
    rintro l pre x W K ⟨hT, hB⟩ hK
    dsimp only [encS]
    gi_wp2
    refine hK _ _ (keepsFrom_below (below0 _ _)) (KpB.below ((below0 W _).mono (by have := hT.2.2.2; omega))) ⟨hT.below (below0 _ _) lf, hB.trans ((below0 W _).mono hB.size)⟩ ⟨W.heap.size, hT.2.2.2, ⟨by simp [go_sem], by simp [go_sem]⟩, rfl⟩
  case body =>
    rintro l pre x a' W hl ⟨rr, hrr⟩ ⟨hT, hB⟩ ⟨Bx, hBx, ⟨x3, x4⟩, rfl⟩ hlt
    have nbx : Bx ≠ bf := by omega
    have zW : n0 ≤ W.heap.size := hT.2.2.2
    obtain ⟨p, hpn⟩ := x
    have HTB : Hid (TabAt n0 bf W0 n (tabR V (pls pre)) W) := hT
    have HB : Hid (Below w.heap.size w W) := hB
    have hpi : (p : Int) < (n : Int) := by omega
    have hpn2 : (p : Int) ≤ 40 := by omega
    have hKW := hT.1
    have c5 := (hKW.cell (p := ⟨b5, 0, none⟩) l5.1 l5.2).trans C5.out
    have c7 := (hKW.cell (p := ⟨b7, 0, none⟩) l7.1 l7.2).trans C7.out
    have c8 := (hKW.cell (p := ⟨b8, 0, none⟩) l8.1 l8.2).trans C8.out
    have hg := gAt_in (tab_in hp (pls pre) (pls_in pre))
    rw [pls_len] at hg
    have hg3 := hg (V (p * 5 + 3))
    have hg4 := hg (V (p * 5 + 4))
    have to3 := pln_to hp hpn 3 (.inl rfl)
    have to4 := pln_to hp hpn 4 (.inr rfl)
    have hlim := pln_lim hp hpn
    obtain ⟨G3, hG3⟩ : ∃ z, gAt (tabR V (pls pre)) (V (p * 5 + 3)) = z := ⟨_, rfl⟩
    obtain ⟨G4, hG4⟩ : ∃ z, gAt (tabR V (pls pre)) (V (p * 5 + 4)) = z := ⟨_, rfl⟩
    obtain ⟨Lm, hLm⟩ : ∃ z, V (p * 5 + 2) = z := ⟨_, rfl⟩
    obtain ⟨X3, hX3⟩ : ∃ z, V (p * 5 + 3) = z := ⟨_, rfl⟩
    obtain ⟨X4, hX4⟩ : ∃ z, V (p * 5 + 4) = z := ⟨_, rfl⟩
    have gb3 : 0 ≤ G3 ∧ G3 ≤ 40000 := by rw [← hG3]; omega
    have gb4 : 0 ≤ G4 ∧ G4 ≤ 40000 := by rw [← hG4]; omega
    have HF : Hid (∀ v0, Below W.heap.size W v0 → (Calls Try.prog 62 #[.int .i64 X3, .pointer (some ⟨b4, 0, none⟩), .pointer (some ⟨b7, 0, none⟩)] v0 fun e w' => e = .returned (.int .i64 G3) ∧ w' = v0) ∧ (Calls Try.prog 62 #[.int .i64 X4, .pointer (some ⟨b4, 0, none⟩), .pointer (some ⟨b7, 0, none⟩)] v0 fun e w' => e = .returned (.int .i64 G4) ∧ w' = v0) ∧ (Calls Try.prog 50 #[.int .i64 (p : Int), .int .i64 G3, .int .i64 G4, .pointer (some ⟨pb, 0, none⟩)] v0 fun e w' => e = .returned (.int .i64 (Lm + max G3 G4)) ∧ w' = v0)) := fun v0 bv => by
      have hT0 := HTB.out.below bv lf
      have k4 := (hT0.1.cell (p := ⟨b4, 0, none⟩) l4.1 l4.2).trans C4.out
      have k7 := (hT0.1.cell (p := ⟨b7, 0, none⟩) l7.1 l7.2).trans C7.out
      have kpb := (hT0.1.cell (p := ⟨pb, 0, none⟩) lp.1 lp.2).trans CPB.out
      obtain ⟨gb, go, rfl, -, -, hcs⟩ := HPK.out.keep hT0.1
      have hc2 := hcs (p * 5 + 2) (by omega)
      rw [← Nat.add_assoc, hLm] at hc2
      refine ⟨?_, ?_, ofStep0 pb gb go n c p G3 G4 Lm v0 hpi h40 kpb hc2 gb3 gb4 (by omega)⟩
      · rw [← hG3, hX3]
        exact foundAt0 b4 b7 bf n _ X3 v0 h40 k4 k7 hT0.2.1 (by rw [← hX3]; rcases to3 with q | q; exact .inl q.1; exact .inr ⟨q.1, by omega, by omega⟩)
      · rw [← hG4, hX4]
        exact foundAt0 b4 b7 bf n _ X4 v0 h40 k4 k7 hT0.2.1 (by rw [← hX4]; rcases to4 with q | q; exact .inl q.1; exact .inr ⟨q.1, by omega, by omega⟩)
    have HV : Hid (bndS V (tabR V (pls pre)) p = Lm + max G3 G4) := by show _ = _; unfold bndS; rw [hG3, hG4, hLm]
    have hmx : 0 ≤ max G3 G4 ∧ max G3 G4 ≤ 40000 := by omega
    obtain ⟨Z, hZ⟩ : ∃ z, Lm + max G3 G4 = z := ⟨_, rfl⟩
    rw [hZ] at HV HF
    rw [hX3] at x3
    rw [hX4] at x4
    have X3H : Hid (W.cell? ⟨Bx, 3, none⟩ = some (.int .i64 X3)) := x3
    have X4H : Hid (W.cell? ⟨Bx, 4, none⟩ = some (.int .i64 X4)) := x4
    have zx : Bx < W.heap.size := cell_lt x3
    have ffp : W.frozen? ⟨bf, p, none⟩ = false := hT.2.2.1 p
    have cfp := hT.2.1 p hpn
    have zfW : bf < W.heap.size := Nat.lt_of_lt_of_le lf hT.2.2.2
    clear hg hg3 hg4 to3 to4 hlim hG3 hG4 hLm hX3 hX4 hZ hmx hT hB hKW gb3 gb4
    gi_wp2
    refine wpIn_region_round (hL := fun ⟨_, _, h⟩ => h) (hd := by kernel_rfl) (S := fun w' => w'.cell? ⟨b7, 0, none⟩ = some (.slice (some ⟨bf, 0, none⟩) n n) ∧ w'.cell? ⟨b5, 0, none⟩ = some (.func (.func 50) #[] #[.pointer (some ⟨pb, 0, none⟩)]) ∧ w'.cell? ⟨b8, 0, none⟩ = some (.func (.func 62) #[] #[.pointer (some ⟨b4, 0, none⟩), .pointer (some ⟨b7, 0, none⟩)]) ∧ w'.cell? ⟨Bx, 3, none⟩ = some (.int .i64 X3) ∧ w'.cell? ⟨Bx, 4, none⟩ = some (.int .i64 X4)) (by kernel_rfl) ?_ (fun hHeld => ?_)
    · exact ⟨by simpa [go_sem] using c7, by simpa [go_sem] using c5, by simpa [go_sem] using c8, by simpa [go_sem] using x3, by simpa [go_sem] using x4⟩
    obtain ⟨v0, hv0⟩ : ∃ z, z = W.drew := ⟨_, rfl⟩
    try rw [← hv0] at hHeld
    rw [← hv0]
    have bv0 : Below W.heap.size W v0 := by rw [hv0]; exact Below.drew (Below.refl _ _)
    clear hv0
    have HF0 := HF.out v0 bv0
    have HF0 : Hid ((Calls Try.prog 62 #[.int .i64 X3, .pointer (some ⟨b4, 0, none⟩), .pointer (some ⟨b7, 0, none⟩)] v0 fun e w' => e = .returned (.int .i64 G3) ∧ w' = v0) ∧ (Calls Try.prog 62 #[.int .i64 X4, .pointer (some ⟨b4, 0, none⟩), .pointer (some ⟨b7, 0, none⟩)] v0 fun e w' => e = .returned (.int .i64 G4) ∧ w' = v0) ∧ (Calls Try.prog 50 #[.int .i64 (p : Int), .int .i64 G3, .int .i64 G4, .pointer (some ⟨pb, 0, none⟩)] v0 fun e w' => e = .returned (.int .i64 Z) ∧ w' = v0)) := HF.out v0 bv0
    have HTV : Hid (TabAt n0 bf W0 n (tabR V (pls pre)) v0) := HTB.out.below bv0 lf
    have cfv : v0.cell? ⟨bf, p, none⟩ = some (.int .i64 (tabR V (pls pre) p)) := HTV.out.2.1 p hpn
    have ffv : v0.frozen? ⟨bf, p, none⟩ = false := HTV.out.2.2.1 p
    have BV0 : Hid (Below W.heap.size W v0) := bv0
    clear c5 c7 c8 x3 x4 bv0 cfp ffp HF HTB
    refine wpAnyH_take (i := 0) (v := .slice (some ⟨bf, 0, none⟩) n n) rfl (by kernel_rfl) (by kernel_rfl) (by kernel_rfl) (fun _ _ _ h => h) (Or.inl ⟨by kernel_rfl, ?_⟩) hHeld ?_
    · intro w' hSw
      obtain ⟨s0_, s1_, s2_, s3_, s4_⟩ := hSw
      first | (go_simp; done) | (go_simp; with_reducible rfl) | (go_simp; rw [IntKind.wrap_i64]; omega) | (go_simp; omega)
    simp only [Act.put, List.setIfInBounds_toArray, List.set_cons_zero, List.set_cons_succ]
    refine wpAnyH_take (i := 1) (v := .int .i64 (p : Int)) rfl (by kernel_rfl) (by kernel_rfl) (by kernel_rfl) (fun _ _ _ h => h) (Or.inl ⟨by kernel_rfl, ?_⟩) hHeld ?_
    · intro w' hSw
      obtain ⟨s0_, s1_, s2_, s3_, s4_⟩ := hSw
      first | (go_simp; done) | (go_simp; with_reducible rfl) | (go_simp; rw [IntKind.wrap_i64]; omega) | (go_simp; omega)
    simp only [Act.put, List.setIfInBounds_toArray, List.set_cons_zero, List.set_cons_succ]
    refine wpAnyH_take (i := 2) (v := .func (.func 50) #[] #[.pointer (some ⟨pb, 0, none⟩)]) rfl (by kernel_rfl) (by kernel_rfl) (by kernel_rfl) (fun _ _ _ h => h) (Or.inl ⟨by kernel_rfl, ?_⟩) hHeld ?_
    · intro w' hSw
      obtain ⟨s0_, s1_, s2_, s3_, s4_⟩ := hSw
      first | (go_simp; done) | (go_simp; with_reducible rfl) | (go_simp; rw [IntKind.wrap_i64]; omega) | (go_simp; omega)
    simp only [Act.put, List.setIfInBounds_toArray, List.set_cons_zero, List.set_cons_succ]
    refine wpAnyH_take (i := 3) (v := .int .i64 (p : Int)) rfl (by kernel_rfl) (by kernel_rfl) (by kernel_rfl) (fun _ _ _ h => h) (Or.inl ⟨by kernel_rfl, ?_⟩) hHeld ?_
    · intro w' hSw
      obtain ⟨s0_, s1_, s2_, s3_, s4_⟩ := hSw
      first | (go_simp; done) | (go_simp; with_reducible rfl) | (go_simp; rw [IntKind.wrap_i64]; omega) | (go_simp; omega)
    simp only [Act.put, List.setIfInBounds_toArray, List.set_cons_zero, List.set_cons_succ]
    refine wpAnyH_take (i := 4) (v := .func (.func 62) #[] #[.pointer (some ⟨b4, 0, none⟩), .pointer (some ⟨b7, 0, none⟩)]) rfl (by kernel_rfl) (by kernel_rfl) (by kernel_rfl) (fun _ _ _ h => h) (Or.inl ⟨by kernel_rfl, ?_⟩) hHeld ?_
    · intro w' hSw
      obtain ⟨s0_, s1_, s2_, s3_, s4_⟩ := hSw
      first | (go_simp; done) | (go_simp; with_reducible rfl) | (go_simp; rw [IntKind.wrap_i64]; omega) | (go_simp; omega)
    simp only [Act.put, List.setIfInBounds_toArray, List.set_cons_zero, List.set_cons_succ]
    refine wpAnyH_take (i := 5) (v := .pointer (some ⟨Bx, 3, none⟩)) rfl (by kernel_rfl) (by kernel_rfl) (by kernel_rfl) (fun _ _ _ h => h) (Or.inl ⟨by kernel_rfl, ?_⟩) hHeld ?_
    · intro w' hSw
      obtain ⟨s0_, s1_, s2_, s3_, s4_⟩ := hSw
      first | (go_simp; done) | (go_simp; with_reducible rfl) | (go_simp; rw [IntKind.wrap_i64]; omega) | (go_simp; omega)
    simp only [Act.put, List.setIfInBounds_toArray, List.set_cons_zero, List.set_cons_succ]
    refine wpAnyH_take (i := 6) (v := .int .i64 X3) rfl (by kernel_rfl) (by kernel_rfl) (by kernel_rfl) (fun _ _ _ h => h) (Or.inl ⟨by kernel_rfl, ?_⟩) hHeld ?_
    · intro w' hSw
      obtain ⟨s0_, s1_, s2_, s3_, s4_⟩ := hSw
      first | (go_simp; done) | (go_simp; with_reducible rfl) | (go_simp; rw [IntKind.wrap_i64]; omega) | (go_simp; omega)
    simp only [Act.put, List.setIfInBounds_toArray, List.set_cons_zero, List.set_cons_succ]
    refine wpAnyH_take (i := 8) (v := .func (.func 62) #[] #[.pointer (some ⟨b4, 0, none⟩), .pointer (some ⟨b7, 0, none⟩)]) rfl (by kernel_rfl) (by kernel_rfl) (by kernel_rfl) (fun _ _ _ h => h) (Or.inl ⟨by kernel_rfl, ?_⟩) hHeld ?_
    · intro w' hSw
      obtain ⟨s0_, s1_, s2_, s3_, s4_⟩ := hSw
      first | (go_simp; done) | (go_simp; with_reducible rfl) | (go_simp; rw [IntKind.wrap_i64]; omega) | (go_simp; omega)
    simp only [Act.put, List.setIfInBounds_toArray, List.set_cons_zero, List.set_cons_succ]
    refine wpAnyH_take (i := 9) (v := .pointer (some ⟨Bx, 4, none⟩)) rfl (by kernel_rfl) (by kernel_rfl) (by kernel_rfl) (fun _ _ _ h => h) (Or.inl ⟨by kernel_rfl, ?_⟩) hHeld ?_
    · intro w' hSw
      obtain ⟨s0_, s1_, s2_, s3_, s4_⟩ := hSw
      first | (go_simp; done) | (go_simp; with_reducible rfl) | (go_simp; rw [IntKind.wrap_i64]; omega) | (go_simp; omega)
    simp only [Act.put, List.setIfInBounds_toArray, List.set_cons_zero, List.set_cons_succ]
    refine wpAnyH_take (i := 10) (v := .int .i64 X4) rfl (by kernel_rfl) (by kernel_rfl) (by kernel_rfl) (fun _ _ _ h => h) (Or.inl ⟨by kernel_rfl, ?_⟩) hHeld ?_
    · intro w' hSw
      obtain ⟨s0_, s1_, s2_, s3_, s4_⟩ := hSw
      first | (go_simp; done) | (go_simp; with_reducible rfl) | (go_simp; rw [IntKind.wrap_i64]; omega) | (go_simp; omega)
    simp only [Act.put, List.setIfInBounds_toArray, List.set_cons_zero, List.set_cons_succ]
    refine wpAnyH_ready (rs := [7]) (by kernel_rfl) (by simp) ?_
    refine (AllReadyH.cons rfl (fun KK hK => ?_) AllReadyH.nil)
    go_simp
    go_wp2_with (first | (refine (HF0.out.1).mono ?_; rintro e v0_1 ⟨rfl, hw_⟩; subst v0_1))
    refine hK.out _ _ (hHeld) (fun hHeld => ?_)
    clear hK KK
    refine wpAnyH_ready (rs := [11]) (by kernel_rfl) (by simp) ?_
    refine (AllReadyH.cons rfl (fun KK hK => ?_) AllReadyH.nil)
    go_simp
    go_wp2_with (first | (refine (HF0.out.2.1).mono ?_; rintro e v0_2 ⟨rfl, hw_⟩; subst v0_2))
    refine hK.out _ _ (hHeld) (fun hHeld => ?_)
    clear hK KK
    refine wpAnyH_ready (rs := [12]) (by kernel_rfl) (by simp) ?_
    refine (AllReadyH.cons rfl (fun KK hK => ?_) AllReadyH.nil)
    go_simp
    go_wp2_with (first | (refine (HF0.out.2.2).mono ?_; rintro e v0_3 ⟨rfl, hw_⟩; subst v0_3))
    refine hK.out _ _ (hHeld) (fun hHeld => ?_)
    clear hK KK
    refine wpAnyH_take (i := 13) (v := .pointer (some ⟨bf, p, none⟩)) rfl (by kernel_rfl) (by kernel_rfl) (by kernel_rfl) (fun _ _ _ h => h) (Or.inl ⟨by kernel_rfl, ?_⟩) hHeld ?_
    · intro w' hSw
      obtain ⟨s0_, s1_, s2_, s3_, s4_⟩ := hSw
      first | (go_simp; done) | (go_simp; with_reducible rfl) | (go_simp; rw [IntKind.wrap_i64]; omega) | (go_simp; omega)
    simp only [Act.put, List.setIfInBounds_toArray, List.set_cons_zero, List.set_cons_succ]
    refine wpAnyH_ready (rs := [14]) (by kernel_rfl) (by simp) ?_
    refine (AllReadyH.cons rfl (fun KK hK => ?_) AllReadyH.nil)
    go_simp
    obtain ⟨v0_4, hV_⟩ : ∃ z, z = v0.setCell ⟨bf, p, none⟩ (.int .i64 Z) := ⟨_, rfl⟩
    rw [← hV_]
    have HT9 : Hid (TabAt n0 bf W0 n (tabR V (pls (pre ++ [⟨p, hpn⟩]))) v0_4) := by
      show TabAt _ _ _ _ _ _
      rw [hV_, pls_snoc]
      have := HTV.out.set lf hpn Z
      rw [← HV.out] at this ⊢
      exact this
    have BS9 : Hid (Beside bf v0 v0_4) := by show Beside _ _ _; rw [hV_]; exact Beside.setCell bf _ _ _
    clear hV_
    refine hK.out _ _ (⟨(BS9.out.cell (p := ⟨b7, 0, none⟩) (cell_lt hHeld.1) l7.2).trans hHeld.1, (BS9.out.cell (p := ⟨b5, 0, none⟩) (cell_lt hHeld.2.1) l5.2).trans hHeld.2.1, (BS9.out.cell (p := ⟨b8, 0, none⟩) (cell_lt hHeld.2.2.1) l8.2).trans hHeld.2.2.1, (BS9.out.cell (p := ⟨Bx, 3, none⟩) (cell_lt hHeld.2.2.2.1) nbx).trans hHeld.2.2.2.1, (BS9.out.cell (p := ⟨Bx, 4, none⟩) (cell_lt hHeld.2.2.2.2) nbx).trans hHeld.2.2.2.2⟩) (fun hHeld => ?_)
    clear hK KK
    refine wpAnyH_done (by kernel_rfl) ?_ _
    clear hHeld
    have b1 : Below w.heap.size w v0_4 := HB.out.trans ((BV0.out.mono HB.out.size).trans (BS9.out.below lb (Nat.le_trans HB.out.size BV0.out.size)))
    exact ⟨(keepsFrom_below BV0.out).trans (keepsFrom_beside BS9.out (by omega)), (KpB.below (BV0.out.mono (by omega))).trans (KpB.beside BS9.out (by have := BV0.out.size; omega)), ⟨HT9.out, b1⟩⟩
  case done =>
    rintro D xs W hD rfl ⟨hT, hB⟩ hK
    have c7 := (hT.1.cell (p := ⟨b7, 0, none⟩) l7.1 l7.2).trans C7.out
    gi_wp2
    refine ⟨by simp, .inl ⟨_, _, rfl, run_takeDeferred hK, ?_⟩⟩
    exact ⟨_, results_tmp rfl _ _ _, bf, rfl, fun j hj => cell_kept (hT.2.1 j hj) (grownBy_putObj' _ D (.deferred none)) (fun r e => by cases e; exact ⟨_, hK, rfl⟩), hB.trans (belowK_b (w := w) (Nat.le_refl _) W D _ _ (by omega) hK rfl rfl)⟩
  case stop =>
    rintro D c pre W _ _ h _
    exact h.elim
end Go.Proofs.Ytlkegoofpmgcjaa
