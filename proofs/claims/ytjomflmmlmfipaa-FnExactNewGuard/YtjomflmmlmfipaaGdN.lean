/-
What is proved: a new guard, as both packages make it.
-/
import Derived.Test.YtjomflmmlmfipaaIsW
import Derived.Test.YtjomflmmlmfipaaBoL
namespace Go.Proofs.Ytjomflmmlmfipaa
set_option maxRecDepth 40000
open Go.RowKit
set_option linter.unusedVariables false
set_option linter.unusedSimpArgs false

def newG (x : Int) : Nat := if inB 1 8 x = true then x.toNat else 0
theorem newG_le (x : Int) : ((newG x : Nat) : Int) ≤ 1048576 := by
  unfold newG
  split
  · rename_i h; have := inB_yes h; omega
  · decide
theorem guard_made (w : World) (k : Nat) (o : Obj) (t : TypeId) : OwnB w.heap.size ((w.alloc o).alloc (.cells (madeCells #[.bool false] k) t)) (some ⟨w.heap.size + 1, 0, none⟩) k (fun _ => false) := fun j hj => by
  have h := bowTo_start (w.alloc o) k (fun _ => false) t
  have hc := h.2.2.2 j hj
  have hf := h.2.2.1 j
  have e1 : (w.alloc o).heap.size = w.heap.size + 1 := by simp
  rw [e1] at hc hf
  refine ⟨w.heap.size + 1, rfl, by omega, by simp, ?_, ?_⟩
  · simpa using hc
  · exact hf
set_option maxHeartbeats 1000000 in
theorem specNewGuard_any (x : Int) (w : World) : Calls Try.prog 13 #[.int .i64 x] w fun e w' => ∃ s c, e = .returned (.agg #[.slice s (newG x) c, .bool false]) ∧ OwnB w.heap.size w' s (newG x) (fun _ => false) ∧ Below w.heap.size w w' := by
  cases h0 : inB 1 8 x
  · have HN : Hid (newG x = 0) := show newG x = 0 by unfold newG; simp [h0]
    go_enter Try.func13, Try.ntmps13
    go_wp2_with fail
    refine (l1In_is _ _ _ _).mono ?_
    rintro e w1 ⟨rfl, rfl⟩
    go_wp2
    exact bodyPost_ret (v := .agg #[.slice none 0 0, .bool false]) (by simp [results, Try.results13, go_sem]) rfl ⟨none, 0, by rw [HN.out], by rw [HN.out]; exact fun j hj => by omega, (by repeat (first | with_reducible exact Below.refl _ _ | with_reducible refine Below.setCell ?_ (by first | omega | (simp; done) | (simp; omega)) _ | with_reducible refine bDrewN ?_ _ | with_reducible refine Below.drew ?_ | with_reducible refine Below.alloc ?_ (by first | omega | (simp; done) | (simp; omega)) _))⟩
  · obtain ⟨m1, m2⟩ := inB_yes h0
    have HN : Hid (newG x = x.toNat) := show newG x = x.toNat by unfold newG; simp [h0]
    obtain ⟨k, rfl⟩ : ∃ k : Nat, x = (k : Int) := ⟨x.toNat, by omega⟩
    rw [Int.toNat_natCast] at HN
    have hmk := make_bool k (by omega)
    go_enter Try.func13, Try.ntmps13
    go_wp2_with fail
    refine (l1In_is _ _ _ _).mono ?_
    rintro e w1 ⟨rfl, rfl⟩
    go_wp2
    exact bodyPost_ret (v := .agg #[.slice (some ⟨w.heap.size + 1, 0, none⟩) k k, .bool false]) (by simp [results, Try.results13, go_sem]) rfl ⟨_, k, by rw [HN.out], by rw [HN.out]; exact guard_made _ _ _ _, (by repeat (first | with_reducible exact Below.refl _ _ | with_reducible refine Below.setCell ?_ (by first | omega | (simp; done) | (simp; omega)) _ | with_reducible refine bDrewN ?_ _ | with_reducible refine Below.drew ?_ | with_reducible refine Below.alloc ?_ (by first | omega | (simp; done) | (simp; omega)) _))⟩
set_option maxHeartbeats 1000000 in
theorem implNewGuard_any (x : Int) (w : World) : Calls Try.prog 14 #[.int .i64 x] w fun e w' => ∃ s c, e = .returned (.agg #[.slice s (newG x) c, .bool false]) ∧ OwnB w.heap.size w' s (newG x) (fun _ => false) ∧ Below w.heap.size w w' := by
  cases h0 : inB 1 8 x
  · have HN : Hid (newG x = 0) := show newG x = 0 by unfold newG; simp [h0]
    go_enter Try.func14, Try.ntmps14
    go_wp2_with fail
    refine (within_is _ _ _ _).mono ?_
    rintro e w1 ⟨rfl, rfl⟩
    go_wp2
    exact bodyPost_ret (v := .agg #[.slice none 0 0, .bool false]) (by simp [results, Try.results14, go_sem]) rfl ⟨none, 0, by rw [HN.out], by rw [HN.out]; exact fun j hj => by omega, (by repeat (first | with_reducible exact Below.refl _ _ | with_reducible refine Below.setCell ?_ (by first | omega | (simp; done) | (simp; omega)) _ | with_reducible refine bDrewN ?_ _ | with_reducible refine Below.drew ?_ | with_reducible refine Below.alloc ?_ (by first | omega | (simp; done) | (simp; omega)) _))⟩
  · obtain ⟨m1, m2⟩ := inB_yes h0
    have HN : Hid (newG x = x.toNat) := show newG x = x.toNat by unfold newG; simp [h0]
    obtain ⟨k, rfl⟩ : ∃ k : Nat, x = (k : Int) := ⟨x.toNat, by omega⟩
    rw [Int.toNat_natCast] at HN
    have hmk := make_bool k (by omega)
    go_enter Try.func14, Try.ntmps14
    go_wp2_with fail
    refine (within_is _ _ _ _).mono ?_
    rintro e w1 ⟨rfl, rfl⟩
    go_wp2
    exact bodyPost_ret (v := .agg #[.slice (some ⟨w.heap.size + 1, 0, none⟩) k k, .bool false]) (by simp [results, Try.results14, go_sem]) rfl ⟨_, k, by rw [HN.out], by rw [HN.out]; exact guard_made _ _ _ _, (by repeat (first | with_reducible exact Below.refl _ _ | with_reducible refine Below.setCell ?_ (by first | omega | (simp; done) | (simp; omega)) _ | with_reducible refine bDrewN ?_ _ | with_reducible refine Below.drew ?_ | with_reducible refine Below.alloc ?_ (by first | omega | (simp; done) | (simp; omega)) _))⟩
end Go.Proofs.Ytjomflmmlmfipaa
