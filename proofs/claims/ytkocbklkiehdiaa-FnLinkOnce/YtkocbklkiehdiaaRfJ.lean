/-
What is proved: what is read of a frame's bytes, as the program reads it.
-/
import Derived.Test.YtkocbklkiehdiaaRfG
import Derived.Test.YtkocbklkiehdiaaRfC
import Derived.Test.YtkocbklkiehdiaaI64
namespace Go.Proofs.Ytkocbklkiehdiaa
set_option maxRecDepth 40000
open Go.RowKit
set_option linter.unusedVariables false
set_option linter.unusedSimpArgs false

theorem store_si : ∀ (W : World) (a : Addr) (s : Option Addr) (n c : Nat), (W.cell? a).isSome = true → W.frozen? a = false → (store a (.slice s n c)).run Try.prog W = .ok () (W.setCell a (.slice s n c)) := fun W a s n c h hf => by
  obtain ⟨u, hu⟩ := Option.isSome_iff_exists.1 h
  rw [run_store Try.prog W a _ _ rfl, hu]
  simp [hf]
theorem fault_ok {n : Nat} {V : Nat → Int} (h : faultV n V = 0) : ¬ n < 7 ∧ V 4 ≤ 20 ∧ (n : Int) = 7 + 2 * V 4 := by
  by_cases h7 : n < 7
  · rw [fault1 h7] at h; omega
  · by_cases h0 : V 0 = 165
    · by_cases h1 : 20 < V 4 ∨ (n : Int) ≠ 7 + 2 * V 4
      · rw [fault3 h7 h0 h1] at h; omega
      · exact ⟨h7, by omega, by omega⟩
    · rw [fault2 h7 h0] at h; omega
set_option maxRecDepth 20000 in
set_option maxHeartbeats 8000000 in
theorem implRead_cap (b o n cp : Nat) (V : Nat → Int) (w : World) (hn : (n : Int) ≤ 1048576) (hcap : n ≤ cp) (hV : Hid (∀ j, j < n → 0 ≤ V j ∧ V j < 256)) (HR : Hid (RowY w (some ⟨b, o, none⟩) n V)) :
    Calls Try.prog 35 #[.slice (some ⟨b, o, none⟩) n cp] w fun e w' => RdPost w n V e w' := by
  have R1 : Hid (RowY (w.alloc (.cells #[.int .i64 0, .int .i64 0, .slice none 0 0] 32)) (some ⟨b, o, none⟩) n V) := HR.out.below (by repeat (first | with_reducible exact Below.refl _ _ | with_reducible refine Below.setCell ?_ (by first | omega | (simp; done) | (simp; omega)) _ | with_reducible refine bDrewN ?_ _ | with_reducible refine Below.drew ?_ | with_reducible refine Below.alloc ?_ (by first | omega | (simp; done) | (simp; omega)) _))
  go_enter Try.func35, Try.ntmps35
  go_wp2_with fail
  refine (frameFault_cap b o n cp V _ hn hcap hV R1).mono ?_
  rintro e w1 ⟨rfl, nq, rfl⟩
  by_cases hf : faultV n V = 0
  case neg =>
    have hfb : (faultV n V != 0) = true := by simp [hf]
    have HN : Hid (rdN n V = 0 ∧ rdT n V = 0 ∧ rdQ n V = 0) := rd_no rfl hf
    go_wp2
    exact bodyPost_ret (v := .tuple #[.agg #[.int .i64 0, .int .i64 0, .slice none 0 0], .int .i64 (faultV n V)]) (by simp [results, Try.results35, go_sem]) rfl ⟨none, 0, by rw [HN.out.1, HN.out.2.1, HN.out.2.2], by rw [HN.out.1]; exact fun j hj => absurd hj (Nat.not_lt_zero j), (by repeat (first | with_reducible exact Below.refl _ _ | with_reducible refine Below.setCell ?_ (by first | omega | (simp; done) | (simp; omega)) _ | with_reducible refine bDrewN ?_ _ | with_reducible refine Below.drew ?_ | with_reducible refine Below.alloc ?_ (by first | omega | (simp; done) | (simp; omega)) _))⟩
  obtain ⟨h7, h20, hn4⟩ := fault_ok hf
  have v1 := hV.out 1 (by omega)
  have v2 := hV.out 2 (by omega)
  have v3 := hV.out 3 (by omega)
  have v4 := hV.out 4 (by omega)
  obtain ⟨k, hk⟩ : ∃ k : Nat, V 4 = (k : Int) := ⟨(V 4).toNat, by omega⟩
  have HN : Hid (rdN n V = k ∧ rdT n V = V 1 ∧ rdQ n V = V 2 * 256 + V 3) := by have := rd_yes hf; rw [hk, Int.toNat_natCast] at this; exact this
  have HF : Hid (faultV n V = 0) := hf
  have hfb : (faultV n V != 0) = false := by simp [hf]
  have hk20 : k ≤ 20 := by omega
  have hnk : n = 7 + 2 * k := by omega
  have ah : ∀ w : World, (Instr.arrayAt 78 (.slice (some ⟨b, o, none⟩) n cp)).run Try.prog w = .ok (.pointer (some ⟨b, o, none⟩)) w := fun w => run_arrayAt w 78 5 5 _ _ _ Try.underlying78 (by omega)
  have hi : ((n : Int) - 2).toNat = 5 + 2 * k := by omega
  have b1 : (5 : Int) ≤ (n : Int) - 2 := by omega
  have b2 : (n : Int) - 2 ≤ (n : Int) := by omega
  have b3 : 5 + 2 * k ≤ n := by omega
  have l1 : 5 + 2 * k - 5 = 2 * k := by omega
  have b6 : (n : Int) ≤ (cp : Int) := by omega
  have b7 : (n : Int) - 2 ≤ (cp : Int) := by omega
  have b8 : 5 + 2 * k ≤ cp := by omega
  have b9 : ¬ cp = 5 := by omega
  obtain ⟨c, hc⟩ : ∃ c, c = cp - 5 := ⟨_, rfl⟩
  have c1 : 2 * k + 1 ≤ c := by omega
  have RS : Hid (∀ w' : World, RowY w' (some ⟨b, o, none⟩) n V → RowY w' (some ⟨b, o + 5, none⟩) (2 * k) (fun j => V (5 + j))) := fun w' h j hj => by
    obtain ⟨h1, h2⟩ := rowY_at h (j := 5 + j) (by omega)
    exact ⟨b, o + 5, rfl, h2, by rw [Nat.add_assoc]; exact h1⟩
  have HVS : Hid (∀ j, j < 2 * k → 0 ≤ V (5 + j) ∧ V (5 + j) < 256) := fun j hj => hV.out (5 + j) (by omega)
  clear hf hk hnk h7 h20 hn4
  go_wp2_with fail
  rw [← hc]
  refine (scan_any b (o + 5) k c (fun j => V (5 + j)) ((w.alloc (.cells #[.int .i64 0, .int .i64 0, .slice none 0 0] 32)).drewN nq) hk20 c1 HVS (RS.out _ R1.out)).mono ?_
  rintro e w2 ⟨s2, c2, rfl, O2, h2⟩
  obtain ⟨hcc, hff⟩ := bcell h2
  have r0 := hcc w.heap.size 0 (by first | omega | (simp; done) | (simp; omega))
  have r1 := hcc w.heap.size 1 (by first | omega | (simp; done) | (simp; omega))
  have r2 := hcc w.heap.size 2 (by first | omega | (simp; done) | (simp; omega))
  have f0 := hff w.heap.size 0 (by first | omega | (simp; done) | (simp; omega))
  have f1 := hff w.heap.size 1 (by first | omega | (simp; done) | (simp; omega))
  have f2 := hff w.heap.size 2 (by first | omega | (simp; done) | (simp; omega))
  simp [go_sem] at r0 r1 r2 f0 f1 f2
  have z2 : w.heap.size < w2.heap.size := by have := h2.size; simp at this; omega
  have B2 : Below w.heap.size w w2 := Below.trans (by repeat (first | with_reducible exact Below.refl _ _ | with_reducible refine Below.setCell ?_ (by first | omega | (simp; done) | (simp; omega)) _ | with_reducible refine bDrewN ?_ _ | with_reducible refine Below.drew ?_ | with_reducible refine Below.alloc ?_ (by first | omega | (simp; done) | (simp; omega)) _)) (h2.mono (by first | omega | (simp; done) | (simp; omega)))
  have R2 : Hid (RowY w2 (some ⟨b, o, none⟩) n V) := HR.out.below B2
  have O3 : Hid (OwnI (w.heap.size + 1) w2 s2 k (rdU V)) := (O2.mono (by simp)).congr (fun _ _ => rfl)
  have d1 := (rowY_at R2.out (j := 1) (by omega)).1
  have d2 := (rowY_at R2.out (j := 2) (by omega)).1
  have d3 := (rowY_at R2.out (j := 3) (by omega)).1
  have sto := store_si
  clear hcc hff h2 O2
  go_wp2_with fail
  refine (headTrain_any b o (V 1) w2 v1.1 v1.2 d1).mono ?_
  rintro e w3 ⟨rfl, rfl⟩
  go_wp2_with fail
  refine (headSeq_any b o (V 2) (V 3) _ v2.1 v2.2 v3.1 v3.2 d2 d3).mono ?_
  rintro e w4 ⟨rfl, nr, rfl⟩
  go_wp2
  exact bodyPost_ret (v := .tuple #[.agg #[.int .i64 (V 1), .int .i64 (V 2 * 256 + V 3), .slice s2 k c2], .int .i64 0]) (by simp [results, Try.results35, go_sem, r0, r1, r2]) rfl ⟨s2, c2, by rw [HF.out, HN.out.1, HN.out.2.1, HN.out.2.2], by rw [HN.out.1]; exact (((O3.out.beside (Beside.setCell w.heap.size _ 0 _) (by omega)).beside (Beside.setCell w.heap.size _ 1 _) (by omega)).beside (Beside.setCell w.heap.size _ 2 _) (by omega)).mono (by omega), (by repeat (first | with_reducible exact Below.refl _ _ | with_reducible exact B2 | with_reducible refine Below.setCell ?_ (by first | omega | (simp; done) | (simp; omega)) _ | with_reducible refine bDrewN ?_ _ | with_reducible refine Below.drew ?_ | with_reducible refine Below.alloc ?_ (by first | omega | (simp; done) | (simp; omega)) _))⟩
end Go.Proofs.Ytkocbklkiehdiaa
