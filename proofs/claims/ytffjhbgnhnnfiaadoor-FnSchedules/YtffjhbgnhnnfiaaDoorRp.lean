/-
What is proved: slices.Repeat of one int64.
-/
import Derived.Test.YtffjhbgnhnnfiaaDoorMu
import Derived.Test.YtffjhbgnhnnfiaaDoorI64
import Derived.Test.YtffjhbgnhnnfiaaDoorBeside
import Derived.Test.YtffjhbgnhnnfiaaDoorAddrL
import Derived.Laws.CopyRow
import Derived.Lib.SlBuf
import Derived.Deep.RegionHeld3
import Derived.Deep.DeepCutAuto
namespace Go.Proofs.YtffjhbgnhnnfiaaDoor
set_option maxRecDepth 40000
open Go.ChangeShapes Go.WideShapes Go.ChangeAt Go.RowKit
set_option linter.unusedVariables false
set_option linter.unusedSimpArgs false

def rpC (x : Int) (k n : Nat) : List Value := List.replicate k (.int .i64 x) ++ List.replicate (n - k) (.int .i64 0)
theorem rpC_len {x : Int} {k n : Nat} (h : k ≤ n) : (rpC x k n).length = n := by unfold rpC; simp; omega
theorem rpC_made (x : Int) (n : Nat) : madeCells #[.int .i64 0] n = (rpC x 0 n).toArray := by
  unfold rpC
  apply Array.ext
  · simp [madeCells]
  · intro i h1 h2
    simp [madeCells, Nat.mod_one]
def RepAt (W : World) (b n k : Nat) (x : Int) : Prop := W.heap[b]? = some (.cells (rpC x k n).toArray 2 (0, 0))
theorem RepAt.cell {W : World} {b n k j : Nat} {x : Int} (h : RepAt W b n k x) (hj : j < k) : W.cell? ⟨b, j, none⟩ = some (.int .i64 x) := by
  unfold RepAt at h
  simp [World.cell?, h, rpC, List.getElem?_append, hj]
theorem rp_store {W : World} {b n k m o : Nat} {x : Int} (h : RepAt W b n k x) (hk : k ≤ n) (ho : o ≤ k) (hm : k ≤ o + m) (hn : o + m ≤ n) : (storeCells ⟨b, o, none⟩ (List.replicate m (.int .i64 x)) 0).run Tryd.prog W = .ok () (W.setRow b (rpC x (o + m) n).toArray) := by
  have hs := run_storeCells_at Tryd.prog b o 2 (List.replicate m (.int .i64 x)) 0 (rpC x k n).toArray W h (by simp [rpC_len hk]; omega) (fun v hv => by rw [List.eq_of_mem_replicate hv]; rfl)
  rw [hs]
  congr 2
  simp only [List.length_replicate, Nat.add_zero]
  congr 1
  unfold rpC
  rw [List.take_append_of_le_length (by simp; omega), List.take_replicate, List.drop_append, List.drop_replicate, List.drop_replicate, List.length_replicate]
  rw [show min o k = o by omega, show k - (o + m) = 0 by omega, List.replicate_zero, List.nil_append, ← List.replicate_append_replicate]
  rw [show n - k - (o + m - k) = n - (o + m) by omega]
theorem rp_row {W : World} {b n k k2 : Nat} {x : Int} (h : RepAt W b n k x) : RepAt (W.setRow b (rpC x k2 n).toArray) b n k2 x := setRow_heap W b _ _ _ _ h
theorem rp_beside (W : World) (b : Nat) (cs : Array Value) : Beside b W (W.setRow b cs) := ⟨rfl, rfl, rfl, by simp, fun k hk hn => setRow_other W b k cs hn⟩
theorem copy_rep {W : World} {b n k : Nat} {x : Int} (ty : TypeId) (m : Nat) (hm : min k (n - k) = m) (h : RepAt W b n k x) (hk : k ≤ n) : (Builtin.copy_ #[25, 25] ty #[.slice (some ⟨b, k, none⟩) (n - k) (n - k), .slice (some ⟨b, 0, none⟩) k n]).run Tryd.prog W = .ok (goInt (m : Int)) (W.setRow b (rpC x (k + m) n).toArray) := by
  have hinfo : (Tryd.prog.info? 2).map (fun i => i.size) = some 1 := by kernel_rfl
  obtain ⟨i, hi, hs⟩ := Option.map_eq_some_iff.1 hinfo
  have hl := run_loadCells_list (P := Tryd.prog) W ⟨b, 0, none⟩ (List.replicate m (.int .i64 x)) (fun j v hv => by
    have hj : j < m := by
      rcases Nat.lt_or_ge j m with z | z
      · exact z
      · rw [List.getElem?_eq_none (by simp; omega)] at hv; cases hv
    rw [List.getElem?_replicate, if_pos hj] at hv
    have := h.cell (j := j) (by omega)
    rw [addr_add, Nat.zero_add]
    exact this.trans hv)
  have hst := rp_store h hk (o := k) (m := m) (Nat.le_refl _) (by omega) (by omega)
  rw [List.length_replicate] at hl
  simp [Builtin.copy_, run_underlying Tryd.underlying25, Builtin.lenOf, Builtin.firstCells, sizeOf, typeInfo, hi, hs, (show k.min (n - k) = m from hm), hl, hst]
theorem copy_one {W : World} {b p n : Nat} {x : Int} (ty : TypeId) (m : Nat) (hm : min 1 n = m) (h : RepAt W b n 0 x) (hp : W.cell? ⟨p, 0, none⟩ = some (.int .i64 x)) : (Builtin.copy_ #[25, 25] ty #[.slice (some ⟨b, 0, none⟩) n n, .slice (some ⟨p, 0, none⟩) 1 1]).run Tryd.prog W = .ok (goInt (m : Int)) (W.setRow b (rpC x m n).toArray) := by
  have hinfo : (Tryd.prog.info? 2).map (fun i => i.size) = some 1 := by kernel_rfl
  obtain ⟨i, hi, hs⟩ := Option.map_eq_some_iff.1 hinfo
  have hl := run_loadCells_list (P := Tryd.prog) W ⟨p, 0, none⟩ (List.replicate m (.int .i64 x)) (fun j v hv => by
    have hj : j < m := by
      rcases Nat.lt_or_ge j m with z | z
      · exact z
      · rw [List.getElem?_eq_none (by simp; omega)] at hv; cases hv
    obtain rfl : j = 0 := by omega
    rw [List.getElem?_replicate, if_pos hj] at hv
    rw [addr_add]
    exact hp.trans hv)
  have hst := rp_store h (Nat.zero_le _) (o := 0) (m := m) (Nat.le_refl _) (by omega) (by omega)
  rw [List.length_replicate] at hl
  rw [Nat.zero_add] at hst
  simp [Builtin.copy_, run_underlying Tryd.underlying25, Builtin.lenOf, Builtin.firstCells, sizeOf, typeInfo, hi, hs, (show Nat.min 1 n = m from hm), hl, hst]
set_option maxRecDepth 20000 in
set_option maxHeartbeats 8000000 in
theorem repeat_any (p n : Nat) (x : Int) (w : World) (hn : n ≤ 40) (zp : p < w.heap.size) (hp : w.cell? ⟨p, 0, none⟩ = some (.int .i64 x)) :
    Calls Tryd.prog 35 #[.slice (some ⟨p, 0, none⟩) 1 1, .int .i64 (n : Int)] w fun e w' => e = .returned (.slice (some ⟨w.heap.size, 0, none⟩) n n) ∧ RepAt w' w.heap.size n n x ∧ Below w.heap.size w w' := by
  have hmk := make_i64 n (by omega)
  have n0 : (0 : Int) ≤ (n : Int) := by omega
  have n1 : (n : Int) ≤ 40 := by omega
  have b0 : decide ((n : Int) < 0) = false := decide_eq_false (by omega)
  have b1 : decide ((9223372036854775807 : Int) < (n : Int)) = false := decide_eq_false (by omega)
  go_enter Tryd.func35, Tryd.ntmps35
  go_wp2_with fail
  refine (mul_one n hn _).mono ?_
  rintro e w ⟨rfl, rfl⟩
  go_upto_region 7 with fail
  obtain ⟨wa, hwa⟩ : ∃ wa, wa = w.alloc (.cells (madeCells #[.int .i64 0] n) 2) := ⟨_, rfl⟩
  rw [← hwa]
  have hb : Below w.heap.size w wa := by rw [hwa]; exact below0 _ _
  have HRA : Hid (RepAt wa w.heap.size n 0 x) := by show RepAt _ _ _ _ _; rw [hwa, rpC_made x n]; exact heap_alloc_new w _
  have hpa : wa.cell? ⟨p, 0, none⟩ = some (.int .i64 x) := (hb.cell (p := ⟨p, 0, none⟩) zp).trans hp
  have HB : Hid (Below w.heap.size w wa) := hb
  obtain ⟨k0, hk0⟩ : ∃ k, min 1 n = k := ⟨_, rfl⟩
  have hcp := copy_one 3 k0 hk0 HRA.out hpa
  clear hwa hb hmk
  go_wp2_with (at_builtin; refine Lib.wpList_copy_run _ (by rfl) (.tmp 31) (.tmp 32) 25 25 (by rfl) _ _ (by rfl) (by rfl) hcp ?_)
  obtain ⟨wb, hwb⟩ : ∃ wb, wb = wa.setRow w.heap.size (rpC x k0 n).toArray := ⟨_, rfl⟩
  rw [← hwb]
  have HRB : Hid (RepAt wb w.heap.size n k0 x) := by show RepAt _ _ _ _ _; rw [hwb]; exact rp_row HRA.out
  have HB2 : Hid (Below w.heap.size w wb) := by show Below _ _ _; rw [hwb]; exact HB.out.trans ((rp_beside wa w.heap.size _).below (Nat.le_refl _) HB.out.size)
  clear hwb hcp HRA HB hpa
  go_loopw [8] (fun i wr => ∃ k : Nat, k ≤ n ∧ i = .int .i64 (k : Int) ∧ (k = n ∨ 1 ≤ k) ∧ Hid (RepAt wr w.heap.size n k x) ∧ Below w.heap.size w wr) (fun i _ => n - (intOf i).toNat)
  case atStart => exact ⟨k0, by omega, rfl, by omega, HRB, HB2.out⟩
  case round =>
    obtain ⟨k, hk, rfl, hk1, HRD, hB⟩ := hrel
    by_cases h1 : k < n
    · have k1 : (k : Int) < (n : Int) := by omega
      have kc : n ≠ k := by omega
      obtain ⟨m, hm⟩ : ∃ m, min k (n - k) = m := ⟨_, rfl⟩
      have m0 : 1 ≤ m := by omega
      have m1 : k + m ≤ n := by omega
      have HBr : Hid (Below w.heap.size w wr) := hB
      go_upto_region 9 with fail
      refine wp_region_held_drew (S := fun w' => Hid True ∧ Hid True) (by kernel_rfl) ?_ (fun hHeld => ?_)
      · exact ⟨trivial, trivial⟩
      refine wpAnyH_take (i := 0) (v := .int .i64 (k : Int)) rfl (by kernel_rfl) (by kernel_rfl) (by kernel_rfl) (fun _ _ _ h => h) (Or.inl ⟨by kernel_rfl, ?_⟩) hHeld ?_
      · intro w' hSw
        obtain ⟨s0, s1⟩ := hSw
        first | (go_simp; done) | (go_simp; with_reducible rfl) | (go_simp; rw [IntKind.wrap_i64]; omega) | (go_simp; omega)
      simp only [Act.put, List.setIfInBounds_toArray, List.set_cons_zero, List.set_cons_succ]
      refine wpAnyH_take (i := 1) (v := .slice (some ⟨w.heap.size, 0, none⟩) n n) rfl (by kernel_rfl) (by kernel_rfl) (by kernel_rfl) (fun _ _ _ h => h) (Or.inl ⟨by kernel_rfl, ?_⟩) hHeld ?_
      · intro w' hSw
        obtain ⟨s0, s1⟩ := hSw
        first | (go_simp; done) | (go_simp; with_reducible rfl) | (go_simp; rw [IntKind.wrap_i64]; omega) | (go_simp; omega)
      simp only [Act.put, List.setIfInBounds_toArray, List.set_cons_zero, List.set_cons_succ]
      refine wpAnyH_take (i := 2) (v := .int .i64 (k : Int)) rfl (by kernel_rfl) (by kernel_rfl) (by kernel_rfl) (fun _ _ _ h => h) (Or.inl ⟨by kernel_rfl, ?_⟩) hHeld ?_
      · intro w' hSw
        obtain ⟨s0, s1⟩ := hSw
        first | (go_simp; done) | (go_simp; with_reducible rfl) | (go_simp; rw [IntKind.wrap_i64]; omega) | (go_simp; omega)
      simp only [Act.put, List.setIfInBounds_toArray, List.set_cons_zero, List.set_cons_succ]
      refine wpAnyH_take (i := 3) (v := .slice (some ⟨w.heap.size, k, none⟩) (n - k) (n - k)) rfl (by kernel_rfl) (by kernel_rfl) (by kernel_rfl) (fun _ _ _ h => h) (Or.inl ⟨by kernel_rfl, ?_⟩) hHeld ?_
      · intro w' hSw
        obtain ⟨s0, s1⟩ := hSw
        first | (go_simp; done) | (go_simp; with_reducible rfl) | (go_simp; rw [IntKind.wrap_i64]; omega) | (go_simp; omega)
      simp only [Act.put, List.setIfInBounds_toArray, List.set_cons_zero, List.set_cons_succ]
      refine wpAnyH_take (i := 4) (v := .slice (some ⟨w.heap.size, 0, none⟩) n n) rfl (by kernel_rfl) (by kernel_rfl) (by kernel_rfl) (fun _ _ _ h => h) (Or.inl ⟨by kernel_rfl, ?_⟩) hHeld ?_
      · intro w' hSw
        obtain ⟨s0, s1⟩ := hSw
        first | (go_simp; done) | (go_simp; with_reducible rfl) | (go_simp; rw [IntKind.wrap_i64]; omega) | (go_simp; omega)
      simp only [Act.put, List.setIfInBounds_toArray, List.set_cons_zero, List.set_cons_succ]
      refine wpAnyH_take (i := 5) (v := .int .i64 (k : Int)) rfl (by kernel_rfl) (by kernel_rfl) (by kernel_rfl) (fun _ _ _ h => h) (Or.inl ⟨by kernel_rfl, ?_⟩) hHeld ?_
      · intro w' hSw
        obtain ⟨s0, s1⟩ := hSw
        first | (go_simp; done) | (go_simp; with_reducible rfl) | (go_simp; rw [IntKind.wrap_i64]; omega) | (go_simp; omega)
      simp only [Act.put, List.setIfInBounds_toArray, List.set_cons_zero, List.set_cons_succ]
      refine wpAnyH_take (i := 6) (v := .slice (some ⟨w.heap.size, 0, none⟩) k n) rfl (by kernel_rfl) (by kernel_rfl) (by kernel_rfl) (fun _ _ _ h => h) (Or.inl ⟨by kernel_rfl, ?_⟩) hHeld ?_
      · intro w' hSw
        obtain ⟨s0, s1⟩ := hSw
        first | (go_simp; done) | (go_simp; with_reducible rfl) | (go_simp; rw [IntKind.wrap_i64]; omega) | (go_simp; omega)
      simp only [Act.put, List.setIfInBounds_toArray, List.set_cons_zero, List.set_cons_succ]
      refine wpAnyH_ready (rs := [7]) (by kernel_rfl) (by simp) ?_
      refine AllReadyH.cons rfl (fun KK hK => ?_) AllReadyH.nil
      refine Lib.wp_copy_run _ (.tmp 41) (.tmp 44) 25 25 (by rfl) _ _ (by rfl) (by rfl) (copy_rep 3 m hm HRD.out (by omega)) ?_
      go_simp
      refine hK.out _ _ ⟨trivial, trivial⟩ (fun hHeld => ?_)
      clear hK KK
      refine wpAnyH_take (i := 8) (v := .int .i64 ((k : Int) + (m : Int))) rfl (by kernel_rfl) (by kernel_rfl) (by kernel_rfl) (fun _ _ _ h => h) (Or.inl ⟨by kernel_rfl, ?_⟩) hHeld ?_
      · intro w' hSw
        obtain ⟨s0, s1⟩ := hSw
        first | (go_simp; done) | (go_simp; with_reducible rfl) | (go_simp; rw [IntKind.wrap_i64]; omega) | (go_simp; omega)
      simp only [Act.put, List.setIfInBounds_toArray, List.set_cons_zero, List.set_cons_succ]
      refine wpAnyH_ready (rs := [9]) (by kernel_rfl) (by simp) ?_
      refine AllReadyH.cons rfl (fun KK hK => ?_) AllReadyH.nil
      go_simp
      refine hK.out _ _ hHeld (fun hHeld => ?_)
      clear hK KK
      refine wpAnyH_done (by kernel_rfl) ?_ _
      clear hHeld
      have HRE : RepAt wr.drew w.heap.size n k x := HRD.out
      have HRN : Hid (RepAt (wr.drew.setRow w.heap.size (rpC x (k + m) n).toArray) w.heap.size n (k + m) x) := rp_row HRE
      have BE : Below w.heap.size w wr.drew := HBr.out.trans ((Below.drew (Below.refl _ _)).mono HBr.out.size)
      have BN : Below w.heap.size w (wr.drew.setRow w.heap.size (rpC x (k + m) n).toArray) := BE.trans ((rp_beside wr.drew w.heap.size _).below (Nat.le_refl _) BE.size)
      go_wp2
      go_roundw
      case rel => exact ⟨k + m, by omega, by go_num, Or.inr (by omega), HRN, BN⟩
      case measure => simp [intOf]; omega
    · obtain rfl : k = n := by omega
      go_wp2
      go_ret
      exact ⟨rfl, HRD.out, hB⟩
end Go.Proofs.YtffjhbgnhnnfiaaDoor
