/-
What is proved: how many basics a set has, by math/bits.
-/
import Derived.Test.YtljaidacaepmmaaMfK
import Derived.BigQuiet
import Derived.Deep.DeepCutAuto
namespace Go.Proofs.Ytljaidacaepmmaa
set_option maxRecDepth 40000
open Go.ChangeShapes Go.WideShapes Go.ChangeAt Go.RowKit
set_option linter.unusedVariables false
set_option linter.unusedSimpArgs false

theorem and255_all : ((List.range 1024).all fun x => decide (bits .and .u32 (x : Int) 255 = ((x % 256 : Nat) : Int))) = true := by kernel_rfl
theorem and255 {x : Nat} (hx : x < 1024) : bits .and .u32 (x : Int) 255 = ((x % 256 : Nat) : Int) := of_decide_eq_true (List.all_eq_true.1 and255_all x (List.mem_range.2 hx))
/-- How many of the first f bits are set. -/
def popN : Nat → Nat → Nat
  | 0, _ => 0
  | f + 1, n => n % 2 + popN f (n / 2)
theorem popN_le : ∀ f n, popN f n ≤ f
  | 0, _ => Nat.le_refl _
  | f + 1, n => by have := popN_le f (n / 2); show n % 2 + popN f (n / 2) ≤ f + 1; omega
theorem tab_at {T : ByteArray} (hT : ((List.range 256).all fun i => (T.data[i]?.map UInt8.toNat) == some (popN 8 i)) = true) {i : Nat} (p : i < T.size) (hi : i < 256) : (T[i]'p).toNat = popN 8 i := by
  have h := List.all_eq_true.1 hT i (List.mem_range.2 hi)
  have e : T.data[i]? = some (T[i]'p) := Array.getElem?_eq_getElem p
  rw [e] at h
  simpa using h
theorem tab_sum {T : ByteArray} (hT : ((List.range 256).all fun i => (T.data[i]?.map UInt8.toNat) == some (popN 8 i)) = true) {h l : Nat} (p0 : 0 < T.size) (ph : h < T.size) (pl : l < T.size) (hh : h < 4) (hl : l < 256) : ((((T[0]'p0).toNat : Nat) : Int) + (((T[0]'p0).toNat : Nat) : Int) + (((T[h]'ph).toNat : Nat) : Int) + (((T[l]'pl).toNat : Nat) : Int)) % 256 = ((popN 8 h + popN 8 l : Nat) : Int) := by
  rw [tab_at hT p0 (by omega), tab_at hT ph (by omega), tab_at hT pl hl, show popN 8 0 = 0 from rfl]
  have := popN_le 8 h
  have := popN_le 8 l
  omega
set_option maxRecDepth 20000 in
set_option maxHeartbeats 1600000 in
theorem ones_any (x h l : Nat) (hx : x = 256 * h + l) (hh : h < 4) (hl : l < 256) (w : World) :
    Calls Try.prog 80 #[.int .u32 (x : Int)] w fun e w' => e = .returned (.int .i64 ((popN 8 h + popN 8 l : Nat) : Int)) ∧ Below w.heap.size w w' := by
  have x1 : (x : Int) < 1024 := by omega
  have s24 : (x : Int) / 16777216 = 0 := by omega
  have s16 : (x : Int) / 65536 = 0 := by omega
  have s8 : (x : Int) / 256 = (h : Int) := by omega
  have n24 : x / 16777216 = 0 := by omega
  have n16 : x / 65536 = 0 := by omega
  have n8 : x / 256 = h := by omega
  have h1 : (h : Int) < 256 := by omega
  have l1 : (l : Int) < 256 := by omega
  have a0 : bits .and .u32 0 255 = 0 := by have := and255 (x := 0) (by omega); simpa using this
  have ah : bits .and .u32 (h : Int) 255 = (h : Int) := by rw [and255 (by omega), Nat.mod_eq_of_lt (by omega)]
  have al : bits .and .u32 (x : Int) 255 = (l : Int) := by rw [and255 (by omega)]; congr 1; omega
  clear hx
  go_enter Try.func80, Try.ntmps80
  go_upto_region 1 with fail
  go_quiet (fail)
  go_wp2
  go_ret
  refine ⟨?_, (by repeat (first | with_reducible exact Below.refl _ _ | with_reducible refine Below.setCell ?_ (by first | omega | (simp; done) | (simp; omega)) _ | with_reducible refine bDrewN ?_ _ | with_reducible refine Below.drew ?_ | with_reducible refine Below.alloc ?_ (by first | omega | (simp; done) | (simp; omega)) _))⟩
  congr 1
  exact congrArg (Value.int .i64) (tab_sum (by kernel_rfl) _ _ _ hh hl)
end Go.Proofs.Ytljaidacaepmmaa
