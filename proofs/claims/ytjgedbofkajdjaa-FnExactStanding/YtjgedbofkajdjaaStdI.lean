/-
What is proved: the alarms that stand, as the program tells them.
-/
import Derived.Test.YtjgedbofkajdjaaStdS
namespace Go.Proofs.Ytjgedbofkajdjaa
set_option maxRecDepth 40000
open Go.ChangeShapes Go.WideShapes Go.ChangeAt Go.RowKit
set_option linter.unusedVariables false
set_option linter.unusedSimpArgs false

theorem news_made {base b0 H : Nat} {w wr : World} {v : Value} {l : List Int} (h : MadeL base b0 H w wr v l) (hl : l ≠ []) : ∃ g cap, v = .slice (some ⟨g, 0, none⟩) l.length cap ∧ ∀ j u, (cellsOf l)[j]? = some u → wr.cell? ((⟨g, 0, none⟩ : Addr).add j) = some u := by
  obtain ⟨g, cap, e, -, -⟩ := h.1.form (by cases l with
    | nil => exact absurd rfl hl
    | cons => simp)
  refine ⟨g, cap, e, fun j u hu => ?_⟩
  have h1 := h.1
  rw [e] at h1
  have hj : j < l.length := by
    rcases Nat.lt_or_ge j l.length with z | z
    · exact z
    · rw [List.getElem?_eq_none (by simpa [cellsOf] using z)] at hu; cases hu
  have := h1.cellAt j (by omega)
  rw [show (⟨g, 0, none⟩ : Addr).add j = ⟨g, j, none⟩ by unfold Addr.add; split <;> simp_all]
  rw [this, hu]
theorem madeL_from {w W wy : World} {v : Value} {l : List Int} (h : MadeL W.heap.size 0 0 W wy v l) (hb : Below w.heap.size w W) : MadeL w.heap.size 0 0 w wy v l := ⟨owns_mono h.1 hb.size, hb.trans (h.2.1.mono hb.size), h.2.2⟩
/-- Two lists behind one another, as one step of a region that draws. -/
theorem step_two {ops : Array Oper} {o : Oper} {a : Act} {K : Act → World → Prop} {Q : Exit → Act → World → Prop} {E : Prop} {w wr : World} (hgd : o.guard = none) (s x : Operand)
    (ho : o.op = .call { callee := .builtin .append, args := #[s, x], argTypes := #[35, 35] }) (v1 v2 : Value) (l1 l2 : List Int) (hs : a.eval s = v1) (hx : a.eval x = v2) (h1 : MadeL w.heap.size 0 0 w wr v1 l1) (h2 : MadeL w.heap.size 0 0 w wr v2 l2) (hn : l2 = [] → v2 = .slice none 0 0) (b1 : l1.length ≤ 1000) (b2 : l2.length ≤ 1000) (hz : w.heap.size ≤ wr.heap.size)
    (h : ∀ v' w', MadeL w.heap.size 0 0 w w' v' (l1 ++ l2) → K (a.put o.dst v') w') : if Region.wanted o (yielded ops a.tmps) = true then Oper.wp Try.prog o a wr K Q else E := by
  have hw : Region.wanted o (yielded ops a.tmps) = true := by simp [Region.wanted, hgd]
  rw [if_pos hw]
  obtain ⟨i0, hi, hz0, hz1, hz2⟩ := info_parts info_i64
  by_cases e : l2 = []
  · have hv := hn e
    rw [hv] at hx
    have hr := run_append_owned_none (P := Try.prog) wr w.heap.size 35 o.type 2 i0 1 Try.underlying35 hi v1 _ _ h1.1
    unfold Oper.wp execOp
    simp only [ho, resolve, invoke, builtin, Sem.run_bind, Sem.run_pure, Result.andThen_ok, List.map_toArray, List.map_cons, List.map_nil, hs, hx, hr]
    exact h v1 wr (by rw [e, List.append_nil]; exact h1)
  · obtain ⟨g2, cap2, e2, hnews⟩ := news_made h2 e
    refine wp_append_own wr s x 35 ho w.heap.size 2 i0 (.int .i64 0) 1 8 Try.underlying35 hi hz0 hz1 hz2 rfl (by decide) v1 l1.length (cellsOf l1) hs h1.1 ⟨g2, 0, none⟩ l2.length cap2 (cellsOf l2) (hx.trans e2) (by simp [cellsOf]) hnews (fun u hu => by
      simp only [cellsOf, List.mem_map] at hu
      obtain ⟨j, _, rfl⟩ := hu
      rfl) (by unfold maxLen; omega) (by omega) hz fun v' w' o1 gr _ => h v' w' ⟨by simpa [cellsOf] using o1, h1.2.1.trans (grown_below gr hz (own_block h1.1)), fun r _ => .inr (Nat.zero_le _)⟩
theorem keepSt {W W' : World} {p : Nat} {v0 v1 : Value} (h0 : W.cell? ⟨p, 0, none⟩ = some v0) (h1 : W.cell? ⟨p, 1, none⟩ = some v1) (zp : p < W.heap.size) (hb : Below W.heap.size W W') : W'.cell? ⟨p, 0, none⟩ = some v0 ∧ W'.cell? ⟨p, 1, none⟩ = some v1 := ⟨(hb.cell (p := ⟨p, 0, none⟩) zp).trans h0, (hb.cell (p := ⟨p, 1, none⟩) zp).trans h1⟩
set_option maxRecDepth 20000 in
set_option maxHeartbeats 4000000 in
theorem implStanding_any (x : Int) (s : Option Addr) (n c : Nat) (V : Nat → Int × Int × Int × Bool × Int) (w : World) (hn : (n : Int) ≤ 1048576) (HR : Hid (RowAlarm w s n V)) :
    Calls Try.prog 16 #[.agg #[.int .i64 x, .slice s n c]] w fun e w' => StdPost w (stdL x n V) e w' := by
  go_enter Try.func16, Try.ntmps16
  go_wp2_with fail
  refine (implBoardOk_any x s n c V _ hn (HR.out.below (by repeat (first | with_reducible exact Below.refl _ _ | with_reducible refine Below.setCell ?_ (by first | omega | (simp; done) | (simp; omega)) _ | with_reducible refine bDrewN ?_ _ | with_reducible refine Below.drew ?_ | with_reducible refine Below.alloc ?_ (by first | omega | (simp; done) | (simp; omega)) _)))).mono ?_
  rintro e w1 ⟨rfl, h1⟩
  obtain ⟨hc, -⟩ := bcell h1
  have p0 := hc w.heap.size 0 (by first | omega | (simp; done) | (simp; omega))
  have p1 := hc w.heap.size 1 (by first | omega | (simp; done) | (simp; omega))
  simp [go_sem] at p0 p1
  have B1 : Below w.heap.size w w1 := Below.trans (by repeat (first | with_reducible exact Below.refl _ _ | with_reducible refine Below.setCell ?_ (by first | omega | (simp; done) | (simp; omega)) _ | with_reducible refine bDrewN ?_ _ | with_reducible refine Below.drew ?_ | with_reducible refine Below.alloc ?_ (by first | omega | (simp; done) | (simp; omega)) _)) (h1.mono (by first | omega | (simp; done) | (simp; omega)))
  have zp : w.heap.size < w1.heap.size := by have := h1.size; simp at this; omega
  have zW := B1.size
  clear hc h1
  cases h0 : boardB x n V
  · have HO : Hid (stdL x n V = []) := by show _ = _; unfold stdL; rw [h0]; rfl
    go_wp2
    go_ret
    exact (by rw [HO.out]; exact ⟨none, 0, rfl, fun j hj => absurd hj (Nat.not_lt_zero j), B1⟩)
  obtain ⟨-, n60, -⟩ := board_yes h0
  have hn2 : (n : Int) ≤ 60 := by omega
  have HF : Hid (stdL x n V = stL V 1 n ++ stL V 2 n) := by show _ = _; unfold stdL; rw [h0]; rfl
  have e1 := stL_le V 1 n
  have e2 := stL_le V 2 n
  clear h0 hn
  go_wp2_with fail
  go_region_held3 (fun w' => w'.cell? ⟨w.heap.size, 0, none⟩ = some (.int .i64 x) ∧ w'.cell? ⟨w.heap.size, 1, none⟩ = some (.slice s n c)) (first | (exact ⟨p0, p1⟩) | (refine keepSt p0 p1 zp ?_; exact (by repeat (first | with_reducible exact Below.refl _ _ | with_reducible exact B9 | with_reducible exact B8 | with_reducible exact B7 | with_reducible refine Below.setCell ?_ (by first | omega | (simp; done) | (simp; omega)) _ | with_reducible refine bDrewN ?_ _ | with_reducible refine Below.drew ?_ | with_reducible refine Below.alloc ?_ (by first | omega | (simp; done) | (simp; omega)) _)))) (first
    | (refine step_two (w := w1) (by rfl) (.tmp 7) (.tmp 9) (by rfl) v1 v2 (stL V 1 n) (stL V 2 n) (by rfl) (by rfl) M1.out M2.out N2.out (by omega) (by omega) B8.size ?_; intro v3 w9 M3; have B9 : Below w1.heap.size w1 w9 := M3.2.1)
    | (have hh := M1; go_at_call_of 43 (Value.int IntKind.i64 2); refine (placesIn_any x s n c V 2 _ hn2 (HR.out.below (by repeat (first | with_reducible exact Below.refl _ _ | with_reducible exact B1 | with_reducible exact BY | with_reducible refine Below.setCell ?_ (by first | omega | (simp; done) | (simp; omega)) _ | with_reducible refine bDrewN ?_ _ | with_reducible refine Below.drew ?_ | with_reducible refine Below.alloc ?_ (by first | omega | (simp; done) | (simp; omega)) _)))).mono ?_; rintro e wz ⟨v2, rfl, M, N⟩; have hz8 : Below wy.heap.size wy wz := Below.trans (by repeat (first | with_reducible exact Below.refl _ _ | with_reducible refine Below.setCell ?_ (by first | omega | (simp; done) | (simp; omega)) _ | with_reducible refine bDrewN ?_ _ | with_reducible refine Below.drew ?_ | with_reducible refine Below.alloc ?_ (by first | omega | (simp; done) | (simp; omega)) _)) (M.2.1.mono (by first | omega | (simp; done) | (simp; omega))); replace M1 : Hid (MadeL w1.heap.size 0 0 w1 wz v1 (stL V 1 n)) := madeL_below M1.out hz8 B7.size; have M2 : Hid (MadeL w1.heap.size 0 0 w1 wz v2 (stL V 2 n)) := madeL_from M (by repeat (first | with_reducible exact Below.refl _ _ | with_reducible exact B7 | with_reducible refine Below.setCell ?_ (by first | omega | (simp; done) | (simp; omega)) _ | with_reducible refine bDrewN ?_ _ | with_reducible refine Below.drew ?_ | with_reducible refine Below.alloc ?_ (by first | omega | (simp; done) | (simp; omega)) _)); have N2 : Hid (stL V 2 n = [] → v2 = .slice none 0 0) := N; have B8 : Below w1.heap.size w1 wz := B7.trans (hz8.mono B7.size); clear M N hz8 hh)
    | (go_at_call_of 43 (Value.int IntKind.i64 1); refine (placesIn_any x s n c V 1 _ hn2 (HR.out.below (by repeat (first | with_reducible exact Below.refl _ _ | with_reducible exact B1 | with_reducible refine Below.setCell ?_ (by first | omega | (simp; done) | (simp; omega)) _ | with_reducible refine bDrewN ?_ _ | with_reducible refine Below.drew ?_ | with_reducible refine Below.alloc ?_ (by first | omega | (simp; done) | (simp; omega)) _)))).mono ?_; rintro e wy ⟨v1, rfl, M, -⟩; have B7 : Below w1.heap.size w1 wy := Below.trans (by repeat (first | with_reducible exact Below.refl _ _ | with_reducible refine Below.setCell ?_ (by first | omega | (simp; done) | (simp; omega)) _ | with_reducible refine bDrewN ?_ _ | with_reducible refine Below.drew ?_ | with_reducible refine Below.alloc ?_ (by first | omega | (simp; done) | (simp; omega)) _)) (M.2.1.mono (by first | omega | (simp; done) | (simp; omega))); have M1 : Hid (MadeL w1.heap.size 0 0 w1 wy v1 (stL V 1 n)) := madeL_from M (by repeat (first | with_reducible exact Below.refl _ _ | with_reducible refine Below.setCell ?_ (by first | omega | (simp; done) | (simp; omega)) _ | with_reducible refine bDrewN ?_ _ | with_reducible refine Below.drew ?_ | with_reducible refine Below.alloc ?_ (by first | omega | (simp; done) | (simp; omega)) _)); have BY : Below w.heap.size w wy := B1.trans (B7.mono zW); have sy := BY.size; clear M))
  all_goals
    go_wp2
    go_ret
    exact (by rw [HF.out]; exact std_post (madeL_from M3 B1))
end Go.Proofs.Ytjgedbofkajdjaa
