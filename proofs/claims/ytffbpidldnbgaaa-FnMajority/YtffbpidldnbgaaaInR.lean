/-
What is proved: a list of floats as the program's instruments.
-/
import Derived.Test.YtffbpidldnbgaaaStl
import Derived.Test.YtffbpidldnbgaaaIns
namespace Go.Proofs.Ytffbpidldnbgaaa
set_option maxRecDepth 40000
open Go.RowKit
set_option linter.unusedVariables false
set_option linter.unusedSimpArgs false

/-- A row of instruments. -/
def RowN (w : World) (s : Option Addr) (m : Nat) (V : Nat → Option Nat) : Prop := ∀ j, j < m → ∃ b o x, s = some ⟨b, o, none⟩ ∧ b < w.heap.size ∧ w.cell? ⟨b, o + j, none⟩ = some (insV x) ∧ Fl x (V j)
theorem RowN.below {w w' : World} {s : Option Addr} {m : Nat} {V : Nat → Option Nat} (h : RowN w s m V) (hb : Below w.heap.size w w') : RowN w' s m V := fun j hj => by
  obtain ⟨b, o, x, e, hl, hc, hx⟩ := h j hj
  exact ⟨b, o, x, e, Nat.lt_of_lt_of_le hl hb.size, (hb.cell (p := ⟨b, o + j, none⟩) hl).trans hc, hx⟩
theorem make_ins (n : Nat) (hn : n ≤ 1048576) (w : World) : (Instr.makeSlice 50 (.int .i64 (n : Int)) (.int .i64 (n : Int))).run Try.prog w = .ok (.slice (some ⟨w.heap.size, 0, none⟩) n n) (w.alloc (.cells (madeCells #[.nilIface] n) 63)) := by
  have hinfo : (Try.prog.info? 63).map (fun i => (i.zero, i.size, i.bytes)) = some (some .nilIface, 1, 16) := by kernel_rfl
  obtain ⟨i, hi, hzz⟩ := Option.map_eq_some_iff.1 hinfo
  simp only [Prod.mk.injEq] at hzz
  obtain ⟨hz, hs, hb⟩ := hzz
  have hr := run_make (P := Try.prog) w 50 63 i _ Try.underlying50 hi hz .i64 .i64 n n (by omega) (Int.le_refl _) (by rw [hb]; omega) (by omega)
  simp only [Int.toNat_natCast, hs, Nat.mul_one] at hr
  exact hr
theorem made_ins (n : Nat) : ∀ j, j < n → (madeCells #[.nilIface] n)[j]? = some .nilIface := fun j hj => by
  simp only [madeCells, Array.getElem?_map, Array.getElem?_range, hj, if_true, Option.map_some]
  show some ((#[Value.nilIface] : Array Value)[j % 1]!) = _
  rw [Nat.mod_one]; rfl
theorem store_if : ∀ (W : World) (a : Addr) (t : TypeId) (v : Value), (W.cell? a).isSome = true → W.frozen? a = false → (store a (.iface t v)).run Try.prog W = .ok () (W.setCell a (.iface t v)) := fun W a t v h hf => by
  obtain ⟨u, hu⟩ := Option.isSome_iff_exists.1 h
  rw [run_store Try.prog W a _ _ rfl, hu]; simp [hf]
theorem assert_yes (x : Nat) (w : World) : Sem.run Try.prog (Instr.typeAssert (.iface 65 (.float .f64 x)) 63 65 true) w = .ok (.tuple #[.float .f64 x, .bool true]) w := by kernel_rfl
theorem assert_no (w : World) : Sem.run Try.prog (Instr.typeAssert (.iface 72 (.agg #[])) 63 65 true) w = .ok (.tuple #[.float .f64 0, .bool false]) w := by kernel_rfl
def InTo (w wr : World) (n k : Nat) (V : Nat → Option Nat) : Prop := Below w.heap.size w wr ∧ w.heap.size < wr.heap.size ∧ (∀ o, wr.frozen? ⟨w.heap.size, o, none⟩ = false) ∧ ∀ j, j < n → ∃ u, wr.cell? ⟨w.heap.size, j, none⟩ = some u ∧ (j < k → ∃ x, u = insV x ∧ Fl x (V j))
theorem inTo_start (w : World) (n : Nat) (V : Nat → Option Nat) (t : TypeId) : InTo w (w.alloc (.cells (madeCells #[.nilIface] n) t)) n 0 V :=
  ⟨below0 _ _, by simp, fun o => by simp [go_sem], fun j hj => ⟨.nilIface, by simpa [go_sem] using made_ins n j hj, fun h => by omega⟩⟩
theorem inTo_keep {w wr w3 : World} {n k : Nat} {V : Nat → Option Nat} (h : InTo w wr n k V) (h3 : Below wr.heap.size wr w3) : InTo w w3 n k V := by
  obtain ⟨hB, hz, hf, hc⟩ := h
  refine ⟨hB.trans (h3.mono (by omega)), Nat.lt_of_lt_of_le hz h3.size, fun o => (h3.frozen (p := ⟨w.heap.size, o, none⟩) hz).trans (hf o), fun j hj => ?_⟩
  obtain ⟨x, c, hx⟩ := hc j hj
  exact ⟨x, (h3.cell (p := ⟨w.heap.size, j, none⟩) hz).trans c, hx⟩
theorem inTo_set {w wr : World} {n k : Nat} {V : Nat → Option Nat} {x : Nat} (h : InTo w wr n k V) (hx : Fl x (V k)) : InTo w (wr.setCell ⟨w.heap.size, k, none⟩ (insV x)) n (k + 1) V := by
  obtain ⟨hB, hz, hf, hc⟩ := h
  refine ⟨(by repeat (first | with_reducible exact Below.refl _ _ | with_reducible exact hB | with_reducible refine Below.setCell ?_ (by first | omega | (simp; done) | (simp; omega)) _ | with_reducible refine bDrewN ?_ _ | with_reducible refine Below.drew ?_ | with_reducible refine Below.alloc ?_ (by first | omega | (simp; done) | (simp; omega)) _)), by simpa using hz, fun o => by simp [go_sem, hf], fun j hj => ?_⟩
  obtain ⟨y, c, hy⟩ := hc j hj
  by_cases b : j = k
  · subst b
    exact ⟨insV x, by simp [go_sem, c], fun _ => ⟨x, rfl, hx⟩⟩
  · exact ⟨y, by simp [go_sem, c, b], fun h => hy (by omega)⟩
set_option maxRecDepth 20000 in
set_option maxHeartbeats 2000000 in
theorem instrumentsOf_any (s : Option Addr) (n c : Nat) (V : Nat → Option Nat) (w : World) (hn : (n : Int) ≤ 1048576) (HR : Hid (RowF w s n V)) :
    Calls Try.prog 30 #[.slice s n c] w fun e w' => e = .returned (.slice (some ⟨w.heap.size, 0, none⟩) n n) ∧ RowN w' (some ⟨w.heap.size, 0, none⟩) n V ∧ Below w.heap.size w w' := by
  have hmk := make_ins n (by omega)
  have sto := store_if
  go_enter Try.func30, Try.ntmps30
  go_wp2_with fail
  go_loopw [11] (fun i wr => ∃ k : Nat, k ≤ n ∧ i = .int .i64 k ∧ InTo w wr n k V) (fun i _ => n - (intOf i).toNat)
  case atStart => exact ⟨0, Nat.zero_le _, rfl, inTo_start w n V _⟩
  case round =>
    obtain ⟨k, hk, rfl, hR⟩ := hrel
    have HT : Hid (InTo w wr n k V) := hR
    obtain ⟨hB, hz, hf, hc⟩ := hR
    by_cases h1 : k < n
    · obtain ⟨g, o, x, rfl, hg, c0, hx⟩ := HR.out k h1
      have d0 : wr.cell? ⟨g, o + k, none⟩ = some (.float .f64 x) := (hB.cell (p := ⟨g, o + k, none⟩) hg).trans c0
      have k1 : (k : Int) < (n : Int) := by omega
      have HX : Hid (Fl x (V k)) := hx
      have lx := hx.1
      obtain ⟨u0, f0, -⟩ := hc k h1
      have fz := hf k
      clear hc hB c0 hg hx hf
      go_wp2_with fail
      refine (instrumentOf_any x lx _).mono ?_
      rintro e w1 ⟨rfl, n1, rfl⟩
      cases hb : knownB x
      · have e2 : insV x = .iface 72 (.agg #[]) := by unfold insV; rw [hb]; rfl
        rw [e2]
        have E2 : Hid _ := e2
        clear e2 hb
        go_wp2
        go_roundw
        case rel => exact ⟨k + 1, by omega, by go_num, by have h := inTo_set (inTo_keep HT.out (w3 := wr.drewN n1) (by repeat (first | with_reducible exact Below.refl _ _ | with_reducible refine Below.setCell ?_ (by first | omega | (simp; done) | (simp; omega)) _ | with_reducible refine bDrewN ?_ _ | with_reducible refine Below.drew ?_ | with_reducible refine Below.alloc ?_ (by first | omega | (simp; done) | (simp; omega)) _))) HX.out; rw [E2.out] at h; exact h⟩
        case measure => simp [intOf]; omega
      · have e2 : insV x = .iface 65 (.float .f64 x) := by unfold insV; rw [hb]; rfl
        rw [e2]
        have E2 : Hid _ := e2
        clear e2 hb
        go_wp2
        go_roundw
        case rel => exact ⟨k + 1, by omega, by go_num, by have h := inTo_set (inTo_keep HT.out (w3 := wr.drewN n1) (by repeat (first | with_reducible exact Below.refl _ _ | with_reducible refine Below.setCell ?_ (by first | omega | (simp; done) | (simp; omega)) _ | with_reducible refine bDrewN ?_ _ | with_reducible refine Below.drew ?_ | with_reducible refine Below.alloc ?_ (by first | omega | (simp; done) | (simp; omega)) _))) HX.out; rw [E2.out] at h; exact h⟩
        case measure => simp [intOf]; omega
    · obtain rfl : k = n := by omega
      go_wp2
      go_ret
      exact ⟨rfl, fun j hj => by obtain ⟨u, c, hu⟩ := hc j hj; obtain ⟨x, rfl, hx⟩ := hu hj; exact ⟨_, 0, x, rfl, hz, by rw [Nat.zero_add]; exact c, hx⟩, hB⟩
end Go.Proofs.Ytffbpidldnbgaaa
