/-
What is proved: what is read of a frame's bytes, as the specification reads it.
-/
import Derived.Test.YtkocbklkiehdiaaRf
import Derived.Test.YtkocbklkiehdiaaI64
import Derived.Test.YtkocbklkiehdiaaCzS
import Derived.Test.YtkocbklkiehdiaaOwn
import Derived.Test.YtkocbklkiehdiaaOwnV
import Derived.BigQuiet
import Derived.Deep.QuietTactic
import Derived.Deep.RegionHeldLaw
import Derived.Deep.RegionLaw
import Derived.BigRegion
import Derived.Deep.DeepCutAuto
namespace Go.Proofs.Ytkocbklkiehdiaa
set_option maxRecDepth 40000
open Go.RowKit
set_option linter.unusedVariables false
set_option linter.unusedSimpArgs false

/-- The values that were read so far, in the field of the frame that lies behind the result. -/
def RdTo (H : Nat) (t q : Int) (wd wr : World) (v : Value) (j : Nat) (U : Nat → Int) : Prop := wr.ownsRow (H + 1 + 1) 2 1 v j (vals U j) ∧ Beside (H + 1) wd wr ∧ wr.cell? ⟨H + 1, 2, none⟩ = some v ∧ (∀ o, wr.frozen? ⟨H + 1, o, none⟩ = false) ∧ wr.cell? ⟨H + 1, 0, none⟩ = some (.int .i64 t) ∧ wr.cell? ⟨H + 1, 1, none⟩ = some (.int .i64 q)
theorem rdTo_start {H : Nat} {t q : Int} {wd : World} {U : Nat → Int} (hz : wd.heap.size = H + 1 + 1) (h2 : wd.cell? ⟨H + 1, 2, none⟩ = some (.slice none 0 0)) (hf : ∀ o, wd.frozen? ⟨H + 1, o, none⟩ = false) (h0 : wd.cell? ⟨H + 1, 0, none⟩ = some (.int .i64 t)) (h1 : wd.cell? ⟨H + 1, 1, none⟩ = some (.int .i64 q)) : RdTo H t q wd wd (.slice none 0 0) 0 U :=
  ⟨(made_nil wd U (base := H + 1 + 1)).1, Beside.of (Below.refl _ _), h2, hf, h0, h1⟩
theorem store_sr : ∀ (W : World) (a : Addr) (s : Option Addr) (n c : Nat), (W.cell? a).isSome = true → W.frozen? a = false → (store a (.slice s n c)).run Try.prog W = .ok () (W.setCell a (.slice s n c)) := fun W a s n c h hf => by
  obtain ⟨u, hu⟩ := Option.isSome_iff_exists.1 h
  rw [run_store Try.prog W a _ _ rfl, hu]
  simp [hf]
theorem wrap_small {x : Int} (h0 : 0 ≤ x) (h1 : x ≤ 1000000) : IntKind.i64.wrap x = x := by
  rw [IntKind.wrap_i64]
  omega
theorem rdU_is (V : Nat → Int) (j : Nat) : rdU V j = V (5 + 2 * j) * 256 + V (6 + 2 * j) := by
  unfold rdU numV
  exact congrArg (fun i => V (5 + 2 * j) * 256 + V i) (by omega)
theorem step_i64 {ops : Array Oper} {o : Oper} {a : Act} {K : Act → World → Prop} {Q : Exit → Act → World → Prop} {E : Prop} {W : World} {t : TypeId} {x : Int} (base : Nat) (v : Value) (k : Nat) (xs : List Value) (s z : Operand) (hgd : o.guard = none)
    (ho : o.op = .call { callee := .builtin .append, args := #[s, z], argTypes := #[24, 24] }) (hs : a.eval s = v) (hx : a.eval z = .slice (some ⟨W.heap.size, 0, none⟩) 1 1) (hown : W.ownsRow base 2 1 v k xs) (hk : k ≤ 1000000) (hb : base ≤ W.heap.size)
    (h : ∀ g cap w', w'.ownsRow base 2 1 (.slice (some ⟨g, 0, none⟩) (k + 1) cap) (k + 1) (xs ++ [.int .i64 x]) → W.grownBy w' v.ownBlock → g < w'.heap.size → K (a.put o.dst (.slice (some ⟨g, 0, none⟩) (k + 1) cap)) w') :
    if Region.wanted o (yielded ops a.tmps) = true then Oper.wp Try.prog o a (W.alloc (.cells #[.int .i64 x] t)) K Q else E := by
  obtain ⟨i0, hi, hz0, hz1, hz2⟩ := info_parts info_i64
  refine step_append_lies _ hgd s z 24 ho base 2 i0 (.int .i64 0) 1 8 Try.underlying24 hi hz0 hz1 hz2 rfl (by decide) v k xs hs (hown.alloc _) ⟨W.heap.size, 0, none⟩ 1 1 [.int .i64 x] hx rfl (newsOne _ _ _) ?_ (by decide) (by unfold maxLen; omega) (by omega) (by simp; omega) _ rfl ?_
  · intro u hu
    simp at hu
    subst hu; rfl
  · intro g cap w' h1 h2 _ h3
    exact h g cap w' h1 (grown_new h2) h3
theorem grown_drew {wr w3 : World} {base : Nat} {e : TypeId} {size n : Nat} {v : Value} {xs : List Value} (ho : wr.ownsRow base e size v n xs) (hg : wr.drew.grownBy w3 v.ownBlock) (hb : base ≤ wr.heap.size) : Below base wr w3 := Below.trans (Below.mono (B := wr.heap.size) (Below.refl _ wr).drew hb) (grown_below hg hb (own_block ho))
theorem keepR {W W' : World} {q j k : Nat} {b c : Value} (h1 : W.cell? ⟨q, j, none⟩ = some b) (h2 : W.cell? ⟨q, k, none⟩ = some c) (hq : q < W.heap.size) (hb : Below W.heap.size W W') : W'.cell? ⟨q, j, none⟩ = some b ∧ W'.cell? ⟨q, k, none⟩ = some c :=
  ⟨(hb.cell (p := ⟨q, j, none⟩) hq).trans h1, (hb.cell (p := ⟨q, k, none⟩) hq).trans h2⟩
theorem keepR3 {W W' : World} {B q j k : Nat} {b c : Value} (h1 : W.cell? ⟨q, j, none⟩ = some b) (h2 : W.cell? ⟨q, k, none⟩ = some c) (hq : q < B) (hb : Below B W W') : W'.cell? ⟨q, j, none⟩ = some b ∧ W'.cell? ⟨q, k, none⟩ = some c :=
  ⟨(hb.cell (p := ⟨q, j, none⟩) hq).trans h1, (hb.cell (p := ⟨q, k, none⟩) hq).trans h2⟩
theorem keepRS {W W' : World} {B q j k p i : Nat} {b c u : Value} (h1 : W.cell? ⟨q, j, none⟩ = some b) (h2 : W.cell? ⟨q, k, none⟩ = some c) (hq : q < B) (hp : q ≠ p) (hb : Below B W W') : (W'.setCell ⟨p, i, none⟩ u).cell? ⟨q, j, none⟩ = some b ∧ (W'.setCell ⟨p, i, none⟩ u).cell? ⟨q, k, none⟩ = some c := by
  obtain ⟨h3, h4⟩ := keepR3 h1 h2 hq hb
  simp [go_sem, hp, h3, h4]
theorem rdTo_on {H : Nat} {t q : Int} {wd wr w3 : World} {v v' : Value} {j : Nat} {U : Nat → Int} (hz : wd.heap.size = H + 1 + 1) (h : RdTo H t q wd wr v j U) (hb : Below (H + 1 + 1) wr w3) (ho : w3.ownsRow (H + 1 + 1) 2 1 v' (j + 1) (vals U j ++ [.int .i64 (U j)])) : RdTo H t q wd (w3.setCell ⟨H + 1, 2, none⟩ v') v' (j + 1) U := by
  obtain ⟨h1, h2, h3, h4, h5, h6⟩ := h
  have hc0 := (hb.cell (p := ⟨H + 1, 0, none⟩) (Nat.lt_succ_self _)).trans h5
  have hc1 := (hb.cell (p := ⟨H + 1, 1, none⟩) (Nat.lt_succ_self _)).trans h6
  have hc : w3.cell? ⟨H + 1, 2, none⟩ = some v := (hb.cell (p := ⟨H + 1, 2, none⟩) (Nat.lt_succ_self _)).trans h3
  refine ⟨by rw [vals_succ]; exact ownsRow_setCell_below ho (Nat.lt_succ_self _) _, ⟨?_, ?_, ?_, ?_, fun k hk hne => ?_⟩, by simp [go_sem, hc], fun o => ?_, by simp [go_sem, hc0], by simp [go_sem, hc1]⟩
  · exact hb.os.trans h2.1
  · exact hb.tape.trans h2.2.1
  · exact hb.output.trans h2.2.2.1
  · exact Nat.le_trans h2.2.2.2.1 (Nat.le_trans hb.size (by simp))
  · rw [(Beside.setCell (H + 1) w3 2 v').2.2.2.2 k (by have := h2.2.2.2.1; have := hb.size; omega) hne]
    exact (hb.block k (by omega)).trans (h2.2.2.2.2 k hk hne)
  · have := (hb.frozen (p := ⟨H + 1, o, none⟩) (Nat.lt_succ_self _)).trans (h4 o)
    simpa [go_sem] using this
def FmAt (H : Nat) (t q : Int) (wx : World) : Prop := wx.heap.size = H + 1 + 1 ∧ wx.cell? ⟨H + 1, 0, none⟩ = some (.int .i64 t) ∧ wx.cell? ⟨H + 1, 1, none⟩ = some (.int .i64 q) ∧ wx.cell? ⟨H + 1, 2, none⟩ = some (.slice none 0 0) ∧ (∀ o, wx.frozen? ⟨H + 1, o, none⟩ = false) ∧ wx.cell? ⟨H, 0, none⟩ = some (.int .i64 0) ∧ wx.cell? ⟨H, 1, none⟩ = some (.int .i64 0) ∧ wx.cell? ⟨H, 2, none⟩ = some (.slice none 0 0) ∧ ∀ o, wx.frozen? ⟨H, o, none⟩ = false
set_option maxRecDepth 20000 in
set_option maxHeartbeats 8000000 in
theorem specRead_cap (b o n cp : Nat) (V : Nat → Int) (w : World) (hn : (n : Int) ≤ 1048576) (hcap : n ≤ cp) (hV : Hid (∀ j, j < n → 0 ≤ V j ∧ V j < 256)) (HR : Hid (RowY w (some ⟨b, o, none⟩) n V)) :
    Calls Try.prog 12 #[.slice (some ⟨b, o, none⟩) n cp] w fun e w' => RdPost w n V e w' := by
  by_cases h7 : n < 7
  · have h7i : (n : Int) < 7 := by omega
    go_enter Try.func12, Try.ntmps12
    have HF : Hid (faultV n V = 1) := fault1 h7
    have HN : Hid (rdN n V = 0 ∧ rdT n V = 0 ∧ rdQ n V = 0) := rd_no HF.out (by decide)
    go_wp2
    exact bodyPost_ret (v := .tuple #[.agg #[.int .i64 0, .int .i64 0, .slice none 0 0], .int .i64 1]) (by simp [results, Try.results12, go_sem]) rfl ⟨none, 0, by rw [HF.out, HN.out.1, HN.out.2.1, HN.out.2.2], by rw [HN.out.1]; exact fun j hj => absurd hj (Nat.not_lt_zero j), (by repeat (first | with_reducible exact Below.refl _ _ | with_reducible refine Below.setCell ?_ (by first | omega | (simp; done) | (simp; omega)) _ | with_reducible refine bDrewN ?_ _ | with_reducible refine Below.drew ?_ | with_reducible refine Below.alloc ?_ (by first | omega | (simp; done) | (simp; omega)) _))⟩
  have h7i : ¬ (n : Int) < 7 := by omega
  have d0 := (rowY_at HR.out (j := 0) (by omega)).1
  have d1 := (rowY_at HR.out (j := 1) (by omega)).1
  have d2 := (rowY_at HR.out (j := 2) (by omega)).1
  have d3 := (rowY_at HR.out (j := 3) (by omega)).1
  have d4 := (rowY_at HR.out (j := 4) (by omega)).1
  have hb := (rowY_at HR.out (j := 0) (by omega)).2
  rw [Nat.add_zero] at d0
  have v4 := hV.out 4 (by omega)
  by_cases h0 : V 0 = 165
  case neg =>
    go_enter Try.func12, Try.ntmps12
    have HF : Hid (faultV n V = 2) := fault2 h7 h0
    have HN : Hid (rdN n V = 0 ∧ rdT n V = 0 ∧ rdQ n V = 0) := rd_no HF.out (by decide)
    go_wp2
    exact bodyPost_ret (v := .tuple #[.agg #[.int .i64 0, .int .i64 0, .slice none 0 0], .int .i64 2]) (by simp [results, Try.results12, go_sem]) rfl ⟨none, 0, by rw [HF.out, HN.out.1, HN.out.2.1, HN.out.2.2], by rw [HN.out.1]; exact fun j hj => absurd hj (Nat.not_lt_zero j), (by repeat (first | with_reducible exact Below.refl _ _ | with_reducible refine Below.setCell ?_ (by first | omega | (simp; done) | (simp; omega)) _ | with_reducible refine bDrewN ?_ _ | with_reducible refine Below.drew ?_ | with_reducible refine Below.alloc ?_ (by first | omega | (simp; done) | (simp; omega)) _))⟩
  rw [h0] at d0
  obtain ⟨k, hk⟩ : ∃ k : Nat, V 4 = (k : Int) := ⟨(V 4).toNat, by omega⟩
  rw [hk] at d4
  by_cases h1 : 20 < V 4 ∨ (n : Int) ≠ 7 + 2 * V 4
  · go_enter Try.func12, Try.ntmps12
    by_cases h20 : (20 : Int) < (k : Int)
    · have HF : Hid (faultV n V = 3) := fault3 h7 h0 h1
      have HN : Hid (rdN n V = 0 ∧ rdT n V = 0 ∧ rdQ n V = 0) := rd_no HF.out (by decide)
      go_wp2
      exact bodyPost_ret (v := .tuple #[.agg #[.int .i64 0, .int .i64 0, .slice none 0 0], .int .i64 3]) (by simp [results, Try.results12, go_sem]) rfl ⟨none, 0, by rw [HF.out, HN.out.1, HN.out.2.1, HN.out.2.2], by rw [HN.out.1]; exact fun j hj => absurd hj (Nat.not_lt_zero j), (by repeat (first | with_reducible exact Below.refl _ _ | with_reducible refine Below.setCell ?_ (by first | omega | (simp; done) | (simp; omega)) _ | with_reducible refine bDrewN ?_ _ | with_reducible refine Below.drew ?_ | with_reducible refine Below.alloc ?_ (by first | omega | (simp; done) | (simp; omega)) _))⟩
    · have hne : ¬ ((n : Int) = 7 + 2 * (k : Int)) := by omega
      have HF : Hid (faultV n V = 3) := fault3 h7 h0 h1
      have HN : Hid (rdN n V = 0 ∧ rdT n V = 0 ∧ rdQ n V = 0) := rd_no HF.out (by decide)
      go_wp2
      exact bodyPost_ret (v := .tuple #[.agg #[.int .i64 0, .int .i64 0, .slice none 0 0], .int .i64 3]) (by simp [results, Try.results12, go_sem]) rfl ⟨none, 0, by rw [HF.out, HN.out.1, HN.out.2.1, HN.out.2.2], by rw [HN.out.1]; exact fun j hj => absurd hj (Nat.not_lt_zero j), (by repeat (first | with_reducible exact Below.refl _ _ | with_reducible refine Below.setCell ?_ (by first | omega | (simp; done) | (simp; omega)) _ | with_reducible refine bDrewN ?_ _ | with_reducible refine Below.drew ?_ | with_reducible refine Below.alloc ?_ (by first | omega | (simp; done) | (simp; omega)) _))⟩
  have hk20 : k ≤ 20 := by omega
  have hnk : (n : Int) = 7 + 2 * (k : Int) := by omega
  have b6 : (n : Int) ≤ (cp : Int) := by omega
  have b7 : 5 + 2 * (k : Int) ≤ (cp : Int) := by omega
  have b8 : 5 + 2 * k ≤ cp := by omega
  have hk5 : (5 + 2 * (k : Int)).toNat = 5 + 2 * k := by omega
  have hk6 : (6 + 2 * (k : Int)).toNat = 6 + 2 * k := by omega
  have d5 := (rowY_at HR.out (j := 5 + 2 * k) (by omega)).1
  have d6 := (rowY_at HR.out (j := 6 + 2 * k) (by omega)).1
  have v1 := hV.out 1 (by omega)
  have v2 := hV.out 2 (by omega)
  have v3 := hV.out 3 (by omega)
  have v5 := hV.out (5 + 2 * k) (by omega)
  have v6 := hV.out (6 + 2 * k) (by omega)
  have hc := crcN_lt (V := V) (5 + 2 * k) (fun j hj => hV.out j (by omega))
  have CR : Hid (∀ w' : World, RowY w' (some ⟨b, o, none⟩) n V → Calls Try.prog 50 #[.slice (some ⟨b, o, none⟩) (5 + 2 * k) cp] w' fun e w2 => e = .returned (.int .i64 (crcN V (5 + 2 * k))) ∧ w2 = w') := fun w' h => by
    have := specCrc_any (some ⟨b, o, none⟩) (5 + 2 * k) cp V w' (fun j hj => hV.out j (by omega)) (h.less (by omega))
    unfold crcV at this
    rw [if_pos (by omega)] at this
    exact this
  have R1 : Hid (RowY (w.alloc (.cells #[.int .i64 0, .int .i64 0, .slice none 0 0] 32)) (some ⟨b, o, none⟩) n V) := HR.out.below (by repeat (first | with_reducible exact Below.refl _ _ | with_reducible refine Below.setCell ?_ (by first | omega | (simp; done) | (simp; omega)) _ | with_reducible refine bDrewN ?_ _ | with_reducible refine Below.drew ?_ | with_reducible refine Below.alloc ?_ (by first | omega | (simp; done) | (simp; omega)) _))
  go_enter Try.func12, Try.ntmps12
  go_upto_region 8 with fail
  go_cut [53] (fun y wx => y = .bool (((crcN V (5 + 2 * k) : Nat) : Int) != V (5 + 2 * k) * 256 + V (6 + 2 * k)) ∧ ∃ nq, wx = (w.alloc (.cells #[.int .i64 0, .int .i64 0, .slice none 0 0] 32)).drewN nq)
  case first =>
    go_quiet (first | (go_at_call 50; exact Calls.quiet_of_same (CR.out _ R1.out)))
    go_wp2
    go_meet
    exact ⟨rfl, nq, rfl⟩
  obtain ⟨rfl, nq, rfl⟩ := hcut
  have en : n - 2 = 5 + 2 * k := by omega
  have nv : numV V (n - 2) = V (5 + 2 * k) * 256 + V (6 + 2 * k) := by unfold numV; rw [en]; exact congrArg (fun j => V (5 + 2 * k) * 256 + V j) (by omega)
  by_cases hs : ((crcN V (5 + 2 * k) : Nat) : Int) = V (5 + 2 * k) * 256 + V (6 + 2 * k)
  case neg =>
    have hmb : (((crcN V (5 + 2 * k) : Nat) : Int) != V (5 + 2 * k) * 256 + V (6 + 2 * k)) = true := by simp [hs]
    have HF : Hid (faultV n V = 4) := fault4 h7 h0 h1 (by rw [nv, en]; exact hs)
    have HN : Hid (rdN n V = 0 ∧ rdT n V = 0 ∧ rdQ n V = 0) := rd_no HF.out (by decide)
    go_wp2
    exact bodyPost_ret (v := .tuple #[.agg #[.int .i64 0, .int .i64 0, .slice none 0 0], .int .i64 4]) (by simp [results, Try.results12, go_sem]) rfl ⟨none, 0, by rw [HF.out, HN.out.1, HN.out.2.1, HN.out.2.2], by rw [HN.out.1]; exact fun j hj => absurd hj (Nat.not_lt_zero j), (by repeat (first | with_reducible exact Below.refl _ _ | with_reducible refine Below.setCell ?_ (by first | omega | (simp; done) | (simp; omega)) _ | with_reducible refine bDrewN ?_ _ | with_reducible refine Below.drew ?_ | with_reducible refine Below.alloc ?_ (by first | omega | (simp; done) | (simp; omega)) _))⟩
  have hmb : (((crcN V (5 + 2 * k) : Nat) : Int) != V (5 + 2 * k) * 256 + V (6 + 2 * k)) = false := by simp [hs]
  have hs2 : (crcN V (n - 2) : Int) = numV V (n - 2) := by rw [nv, en]; exact hs
  by_cases t0 : V 1 < 1
  · have HF : Hid (faultV n V = 5) := fault5 h7 h0 h1 hs2 (.inl t0)
    have HN : Hid (rdN n V = 0 ∧ rdT n V = 0 ∧ rdQ n V = 0) := rd_no HF.out (by decide)
    go_wp2
    exact bodyPost_ret (v := .tuple #[.agg #[.int .i64 0, .int .i64 0, .slice none 0 0], .int .i64 5]) (by simp [results, Try.results12, go_sem]) rfl ⟨none, 0, by rw [HF.out, HN.out.1, HN.out.2.1, HN.out.2.2], by rw [HN.out.1]; exact fun j hj => absurd hj (Nat.not_lt_zero j), (by repeat (first | with_reducible exact Below.refl _ _ | with_reducible refine Below.setCell ?_ (by first | omega | (simp; done) | (simp; omega)) _ | with_reducible refine bDrewN ?_ _ | with_reducible refine Below.drew ?_ | with_reducible refine Below.alloc ?_ (by first | omega | (simp; done) | (simp; omega)) _))⟩
  by_cases t4 : 4 < V 1
  · have HF : Hid (faultV n V = 5) := fault5 h7 h0 h1 hs2 (.inr t4)
    have HN : Hid (rdN n V = 0 ∧ rdT n V = 0 ∧ rdQ n V = 0) := rd_no HF.out (by decide)
    go_wp2
    exact bodyPost_ret (v := .tuple #[.agg #[.int .i64 0, .int .i64 0, .slice none 0 0], .int .i64 5]) (by simp [results, Try.results12, go_sem]) rfl ⟨none, 0, by rw [HF.out, HN.out.1, HN.out.2.1, HN.out.2.2], by rw [HN.out.1]; exact fun j hj => absurd hj (Nat.not_lt_zero j), (by repeat (first | with_reducible exact Below.refl _ _ | with_reducible refine Below.setCell ?_ (by first | omega | (simp; done) | (simp; omega)) _ | with_reducible refine bDrewN ?_ _ | with_reducible refine Below.drew ?_ | with_reducible refine Below.alloc ?_ (by first | omega | (simp; done) | (simp; omega)) _))⟩
  have HF : Hid (faultV n V = 0) := fault0 h7 h0 h1 hs2 (by omega)
  have HN : Hid (rdN n V = k ∧ rdT n V = V 1 ∧ rdQ n V = V 2 * 256 + V 3) := by have := rd_yes HF.out; rw [hk, Int.toNat_natCast] at this; exact this
  go_upto_region 12 with fail
  go_cut [5] (fun y wx => y = .pointer (some ⟨w.heap.size + 1, 0, none⟩) ∧ FmAt w.heap.size (V 1) (V 2 * 256 + V 3) wx ∧ Below w.heap.size w wx)
  case first =>
    go_region
    all_goals
      go_wp2_with fail
      go_meet
      exact ⟨rfl, ⟨by simp, by simp [go_sem], by simp [go_sem], by simp [go_sem], fun o => by simp [go_sem], by simp [go_sem], by simp [go_sem], by simp [go_sem], fun o => by simp [go_sem]⟩, (by repeat (first | with_reducible exact Below.refl _ _ | with_reducible refine Below.setCell ?_ (by first | omega | (simp; done) | (simp; omega)) _ | with_reducible refine bDrewN ?_ _ | with_reducible refine Below.drew ?_ | with_reducible refine Below.alloc ?_ (by first | omega | (simp; done) | (simp; omega)) _))⟩
  obtain ⟨rfl, ⟨zd, p0, p1, p2, pf, r0, r1, r2, rf⟩, Bd⟩ := hcut
  rename World => wd
  have Rd : Hid (RowY wd (some ⟨b, o, none⟩) n V) := HR.out.below Bd
  clear d0 d1 d2 d3 d4 d5 d6
  have sto := store_sr
  have RT0 : Hid (RdTo w.heap.size (V 1) (V 2 * 256 + V 3) wd wd (.slice none 0 0) 0 (rdU V)) := rdTo_start zd p2 pf p0 p1
  clear p2
  go_wp2_with fail
  go_loopw [6] (fun i wr => ∃ (j : Nat) (v : Value), j ≤ k ∧ i = .int .i64 j ∧ RdTo w.heap.size (V 1) (V 2 * 256 + V 3) wd wr v j (rdU V)) (fun i _ => k - (intOf i).toNat)
  case atStart => exact ⟨0, .slice none 0 0, Nat.zero_le _, rfl, RT0.out⟩
  case round =>
    obtain ⟨j, v, hj, rfl, hT⟩ := hrel
    have HT : Hid (RdTo w.heap.size (V 1) (V 2 * 256 + V 3) wd wr v j (rdU V)) := hT
    obtain ⟨hown, hBs, c2, cf, c0, c1⟩ := hT
    have HO : Hid (wr.ownsRow (w.heap.size + 1 + 1) 2 1 v j (vals (rdU V) j)) := hown
    have sz : w.heap.size + 1 + 1 ≤ wr.heap.size := by have := hBs.2.2.2.1; omega
    by_cases hlt : j < k
    · have j1 : (j : Int) < (k : Int) := by omega
      have j5 : (5 + 2 * (j : Int)).toNat = 5 + 2 * j := by omega
      have j6 : (6 + 2 * (j : Int)).toNat = 6 + 2 * j := by omega
      have e5 : wr.cell? ⟨b, o + (5 + 2 * j), none⟩ = some (.int .u8 (V (5 + 2 * j))) := (hBs.cell (p := ⟨b, o + (5 + 2 * j), none⟩) (by show b < _; omega) (by show b ≠ _; omega)).trans (rowY_at Rd.out (j := 5 + 2 * j) (by omega)).1
      have e6 : wr.cell? ⟨b, o + (6 + 2 * j), none⟩ = some (.int .u8 (V (6 + 2 * j))) := (hBs.cell (p := ⟨b, o + (6 + 2 * j), none⟩) (by show b < _; omega) (by show b ≠ _; omega)).trans (rowY_at Rd.out (j := 6 + 2 * j) (by omega)).1
      have u5 := hV.out (5 + 2 * j) (by omega)
      have u6 := hV.out (6 + 2 * j) (by omega)
      have f2 := cf 2
      have zb : b < wr.heap.size := by omega
      have jn : (5 + 2 * (j : Int)) < (n : Int) := by omega
      have jn6 : (6 + 2 * (j : Int)) < (n : Int) := by omega
      have hb2 : b < w.heap.size + 1 + 1 := by omega
      have hw1 : IntKind.i64.wrap (2 * (j : Int)) = 2 * (j : Int) := wrap_small (by omega) (by omega)
      have hw5 : IntKind.i64.wrap (5 + 2 * (j : Int)) = 5 + 2 * (j : Int) := wrap_small (by omega) (by omega)
      have hw6 : IntKind.i64.wrap (6 + 2 * (j : Int)) = 6 + 2 * (j : Int) := wrap_small (by omega) (by omega)
      have hw7 : IntKind.i64.wrap (V (5 + 2 * j)) = V (5 + 2 * j) := wrap_small (by omega) (by omega)
      have hw8 : IntKind.i64.wrap (V (6 + 2 * j)) = V (6 + 2 * j) := wrap_small (by omega) (by omega)
      have hw9 : IntKind.i64.wrap (V (5 + 2 * j) * 256) = V (5 + 2 * j) * 256 := wrap_small (by omega) (by omega)
      have hw10 : IntKind.i64.wrap (V (5 + 2 * j) * 256 + V (6 + 2 * j)) = V (5 + 2 * j) * 256 + V (6 + 2 * j) := wrap_small (by omega) (by omega)
      have bP : b ≠ w.heap.size + 1 := by omega
      have jk5 : 5 + 2 * (j : Int) < 7 + 2 * (k : Int) := by omega
      have jk6 : 6 + 2 * (j : Int) < 7 + 2 * (k : Int) := by omega
      have ib5 : (0 : Int) ≤ 5 + 2 * (j : Int) ∧ 5 + 2 * (j : Int) < (n : Int) := ⟨by omega, jn⟩
      have ib6 : (0 : Int) ≤ 6 + 2 * (j : Int) ∧ 6 + 2 * (j : Int) < (n : Int) := ⟨by omega, jn6⟩
      have zP : w.heap.size + 1 < wr.heap.size := by omega
      clear hown hBs cf
      go_upto_region 16 with fail
      have c2d : wr.drew.cell? ⟨w.heap.size + 1, 2, none⟩ = some v := c2
      go_region_law (refine step_i64 (w.heap.size + 1 + 1) v j (vals (rdU V) j) (.tmp 87) (.tmp 104) (by rfl) (by rfl) (by simp [Act.eval]) (by simp [Act.eval]) HO.out.drew (by omega) (by simp; omega) ?_; intro g' cap' w3 hown3 hgrow3 hlt3; have HG : Hid (Below (w.heap.size + 1 + 1) wr w3) := grown_drew HO.out hgrow3 sz; have HO3 : Hid (w3.ownsRow (w.heap.size + 1 + 1) 2 1 (.slice (some ⟨g', 0, none⟩) (j + 1) cap') (j + 1) (vals (rdU V) j ++ [.int .i64 (V (5 + 2 * j) * 256 + V (6 + 2 * j))])) := hown3; have f3 : w3.frozen? ⟨w.heap.size + 1, 2, none⟩ = false := (HG.out.frozen (p := ⟨w.heap.size + 1, 2, none⟩) (Nat.lt_succ_self _)).trans f2; have c3 : w3.cell? ⟨w.heap.size + 1, 2, none⟩ = some v := (HG.out.cell (p := ⟨w.heap.size + 1, 2, none⟩) (Nat.lt_succ_self _)).trans c2; clear hgrow3 hown3)
      all_goals
        go_wp2
        go_roundw
        case rel => exact ⟨j + 1, _, by omega, by go_num, rdTo_on zd HT.out HG.out (by rw [← rdU_is] at HO3; exact HO3.out)⟩
        case measure => simp [intOf]; omega
    · obtain rfl : j = k := by omega
      obtain ⟨s', cap, rfl, O⟩ := own_OwnI (size := 1) (n := j) (U := rdU V) (by rw [Nat.mul_one]; exact hown)
      rw [Nat.mul_one] at O
      have y0 := (hBs.cell (p := ⟨w.heap.size, 0, none⟩) (by show w.heap.size < _; omega) (by show w.heap.size ≠ w.heap.size + 1; omega)).trans r0
      have y1 := (hBs.cell (p := ⟨w.heap.size, 1, none⟩) (by show w.heap.size < _; omega) (by show w.heap.size ≠ w.heap.size + 1; omega)).trans r1
      have y2 := (hBs.cell (p := ⟨w.heap.size, 2, none⟩) (by show w.heap.size < _; omega) (by show w.heap.size ≠ w.heap.size + 1; omega)).trans r2
      have yf : ∀ o, wr.frozen? ⟨w.heap.size, o, none⟩ = false := fun o => (hBs.frozen (p := ⟨w.heap.size, o, none⟩) (by show w.heap.size < _; omega) (by show w.heap.size ≠ w.heap.size + 1; omega)).trans (rf o)
      have f0 := yf 0
      have f1 := yf 1
      have f2 := yf 2
      have BE : Below w.heap.size w wr := Bd.trans (hBs.below (by omega) Bd.size)
      have OE : Hid (OwnI (w.heap.size + 1 + 1) wr s' j (rdU V)) := O
      clear hown hBs cf yf O HT HO
      go_wp2
      exact bodyPost_ret (v := .tuple #[.agg #[.int .i64 (V 1), .int .i64 (V 2 * 256 + V 3), .slice s' j cap], .int .i64 0]) (by simp [results, Try.results12, go_sem, y0, y1, y2]) rfl ⟨s', cap, by rw [HF.out, HN.out.1, HN.out.2.1, HN.out.2.2], by rw [HN.out.1]; exact (((OE.out.beside (Beside.setCell w.heap.size wr 0 _) (by omega)).beside (Beside.setCell w.heap.size _ 1 _) (by omega)).beside (Beside.setCell w.heap.size _ 2 _) (by omega)).mono (by omega), (by repeat (first | with_reducible exact Below.refl _ _ | with_reducible exact BE | with_reducible refine Below.setCell ?_ (by first | omega | (simp; done) | (simp; omega)) _ | with_reducible refine bDrewN ?_ _ | with_reducible refine Below.drew ?_ | with_reducible refine Below.alloc ?_ (by first | omega | (simp; done) | (simp; omega)) _))⟩
set_option maxHeartbeats 1000000 in
theorem specReadO (sy : Option Addr) (n cp : Nat) (V : Nat → Int) (w : World) (hn : (n : Int) ≤ 1048576) (hcap : n ≤ cp) (hS : sy = none ∨ ∃ b, sy = some ⟨b, 0, none⟩) (hV : Hid (∀ j, j < n → 0 ≤ V j ∧ V j < 256)) (HR : Hid (RowY w sy n V)) :
    Calls Try.prog 12 #[.slice sy n cp] w fun e w' => RdPost w n V e w' := by
  rcases hS with rfl | ⟨b, rfl⟩
  · obtain rfl : n = 0 := by
      rcases Nat.eq_zero_or_pos n with q | q
      · exact q
      · obtain ⟨b, o, e, _⟩ := HR.out 0 q
        cases e
    have HF : Hid (faultV 0 V = 1) := fault1 (by decide)
    have HN : Hid (rdN 0 V = 0 ∧ rdT 0 V = 0 ∧ rdQ 0 V = 0) := rd_no HF.out (by decide)
    go_enter Try.func12, Try.ntmps12
    go_wp2
    exact bodyPost_ret (v := .tuple #[.agg #[.int .i64 0, .int .i64 0, .slice none 0 0], .int .i64 1]) (by simp [results, Try.results12, go_sem]) rfl ⟨none, 0, by rw [HF.out, HN.out.1, HN.out.2.1, HN.out.2.2], by rw [HN.out.1]; exact fun j hj => absurd hj (Nat.not_lt_zero j), (by repeat (first | with_reducible exact Below.refl _ _ | with_reducible refine Below.setCell ?_ (by first | omega | (simp; done) | (simp; omega)) _ | with_reducible refine bDrewN ?_ _ | with_reducible refine Below.drew ?_ | with_reducible refine Below.alloc ?_ (by first | omega | (simp; done) | (simp; omega)) _))⟩
  · exact specRead_cap b 0 n cp V w hn hcap hV HR
end Go.Proofs.Ytkocbklkiehdiaa
