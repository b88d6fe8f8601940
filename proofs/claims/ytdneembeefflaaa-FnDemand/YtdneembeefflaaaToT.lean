/-
What is proved: what the specification tells a vote to bear.
-/
import Derived.Test.YtdneembeefflaaaToS
import Derived.Deep.DeepCutAuto
namespace Go.Proofs.Ytdneembeefflaaa
set_option maxRecDepth 40000
open Go.ChangeShapes Go.WideShapes Go.ChangeAt Go.RowKit
set_option linter.unusedVariables false
set_option linter.unusedSimpArgs false

theorem row_made (w : World) (n : Nat) (t : TypeId) : RowI (w.alloc (.cells (madeCells #[.int .i64 0] n) t)) (some ⟨w.heap.size, 0, none⟩) n (fun _ => 0) := fun j hj => by
  have m0 : (madeCells #[.int .i64 0] n)[j]? = some (.int .i64 0) := by
    simp only [madeCells, Array.getElem?_map, Array.getElem?_range, hj, if_true, Option.map_some]
    show some ((#[Value.int .i64 0] : Array Value)[j % 1]!) = _
    rw [Nat.mod_one]; rfl
  exact ⟨_, 0, rfl, by simp, by simp [go_sem, m0]⟩
set_option maxRecDepth 20000 in
set_option maxHeartbeats 4000000 in
theorem specTolerates_any (n need b k : Int) (w : World) (bn : -9223372036854775808 ≤ n ∧ n ≤ 9223372036854775807) (bb : -9223372036854775808 ≤ b ∧ b ≤ 9223372036854775807) :
    Calls Try.prog 6 #[.int .i64 n, .int .i64 need, .int .i64 b, .int .i64 k] w fun e w' => e = .returned (.tuple #[.bool (tolV true n need b k), .bool (tolV false n need b k)]) ∧ Below w.heap.size w w' := by
  go_enter Try.func6, Try.ntmps6
  go_wp2_with fail
  refine (l1In_is _ _ _ _).mono ?_
  rintro e w ⟨rfl, rfl⟩
  cases h0 : inB 1 8 n
  · have HO : Hid (tolV true n need b k = false ∧ tolV false n need b k = false) := by
      have : tolB n need b k = false := by unfold tolB votersB; rw [h0]; rfl
      unfold tolV
      rw [this]
      exact ⟨rfl, rfl⟩
    go_wp2
    exact bodyPost_ret (v := .tuple #[.bool false, .bool false]) (by simp [results, Try.results6, go_sem]) rfl ⟨by rw [HO.out.1, HO.out.2], Below.refl _ _⟩
  go_wp2_with fail
  refine (l1In_is _ _ _ _).mono ?_
  rintro e w ⟨rfl, rfl⟩
  cases h1 : inB 1 n need
  · have HO : Hid (tolV true n need b k = false ∧ tolV false n need b k = false) := by
      have : tolB n need b k = false := by unfold tolB votersB; rw [h0, h1]; rfl
      unfold tolV
      rw [this]
      exact ⟨rfl, rfl⟩
    go_wp2
    exact bodyPost_ret (v := .tuple #[.bool false, .bool false]) (by simp [results, Try.results6, go_sem]) rfl ⟨by rw [HO.out.1, HO.out.2], Below.refl _ _⟩
  go_wp2_with fail
  refine (l1In_is _ _ _ _).mono ?_
  rintro e w ⟨rfl, rfl⟩
  cases h2 : inB 0 n b
  · have HO : Hid (tolV true n need b k = false ∧ tolV false n need b k = false) := by
      have : tolB n need b k = false := by unfold tolB votersB; rw [h0, h1, h2]; rfl
      unfold tolV
      rw [this]
      exact ⟨rfl, rfl⟩
    go_wp2
    exact bodyPost_ret (v := .tuple #[.bool false, .bool false]) (by simp [results, Try.results6, go_sem]) rfl ⟨by rw [HO.out.1, HO.out.2], Below.refl _ _⟩
  obtain ⟨n1, n8⟩ := inB_yes h0
  obtain ⟨b0, b1⟩ := inB_yes h2
  have wnb : IntKind.i64.wrap (n - b) = n - b := by rw [IntKind.wrap_i64]; omega
  go_wp2_with fail
  refine (l1In_is _ _ _ _).mono ?_
  rintro e w ⟨rfl, rfl⟩
  cases h3 : inB 0 (n - b) k
  · have HO : Hid (tolV true n need b k = false ∧ tolV false n need b k = false) := by
      have : tolB n need b k = false := by unfold tolB votersB; rw [h0, h1, h2, h3]; rfl
      unfold tolV
      rw [this]
      exact ⟨rfl, rfl⟩
    go_wp2
    exact bodyPost_ret (v := .tuple #[.bool false, .bool false]) (by simp [results, Try.results6, go_sem]) rfl ⟨by rw [HO.out.1, HO.out.2], Below.refl _ _⟩
  obtain ⟨k0, k1⟩ := inB_yes h3
  have hv : votersB n need = true := by unfold votersB; rw [h0, h1]; rfl
  have ht : tolB n need b k = true := by unfold tolB; rw [hv, h2, h3]; rfl
  obtain ⟨N, rfl⟩ : ∃ N : Nat, n = (N : Int) := ⟨n.toNat, by omega⟩
  have HA : Hid (∀ q s c w, RowI w s N (fun _ => 0) → Calls Try.prog 15 #[.slice s N c, .int .i64 0, .int .i64 need, .int .i64 b, .int .i64 k, .int .i64 (wantV q), .int .i64 (wantV q)] w fun e w' => e = .returned (.bool (tolV q (N : Int) need b k)) ∧ Below w.heap.size w w') := fun q s c w R => by
    have := l14All_any q need N (by omega) hv N 0 (by omega) s c (fun _ => 0) b k w b0 (by omega) k0 (by omega) (decide_eq_true fun j hj => ⟨show (0 : Int) ≤ 0 by omega, show (0 : Int) ≤ 3 by omega⟩) R
    unfold tolV
    rw [ht]
    unfold raB at this
    rw [if_neg (by omega)] at this
    exact this
  have hmk := make_i64 N (by omega)
  clear h0 h1 h2 h3 hv ht
  go_upto_region 4 with fail
  obtain ⟨wa, hwa⟩ : ∃ wa, wa = w.alloc (.cells (madeCells #[.int .i64 0] N) 2) := ⟨_, rfl⟩
  rw [← hwa]
  have B1 : Below w.heap.size w wa := by rw [hwa]; exact below0 _ _
  have HR : Hid (RowI wa (some ⟨w.heap.size, 0, none⟩) N (fun _ => 0)) := by show RowI _ _ _ _; rw [hwa]; exact row_made w N _
  clear hwa hmk
  go_wp2_with fail
  refine (HA.out true _ _ _ HR.out).mono ?_
  rintro e w2 ⟨rfl, h2⟩
  replace HR : Hid (RowI w2 (some ⟨w.heap.size, 0, none⟩) N (fun _ => 0)) := HR.out.below h2
  have B2 : Below w.heap.size w w2 := B1.trans (h2.mono B1.size)
  clear h2 B1
  go_wp2_with fail
  refine (HA.out false _ _ _ HR.out).mono ?_
  rintro e w3 ⟨rfl, h3⟩
  have B3 : Below w.heap.size w w3 := B2.trans (h3.mono B2.size)
  clear h3 B2
  go_wp2
  exact bodyPost_ret (v := .tuple #[.bool (tolV true (N : Int) need b k), .bool (tolV false (N : Int) need b k)]) (by simp [results, Try.results6, go_sem]) rfl ⟨rfl, B3⟩
end Go.Proofs.Ytdneembeefflaaa
