/-
What is proved: what the program's instruments say, whether they work or are broken.
-/
import Derived.Test.YtffbpidldnbgaaaSz
namespace Go.Proofs.Ytffbpidldnbgaaa
set_option maxRecDepth 40000
open Go.RowKit
set_option linter.unusedVariables false
set_option linter.unusedSimpArgs false

theorem upon_run {P : Program} {α : Type} {op : Oper} {act : Act} {K : Act → World → Prop} {Q : Exit → Act → World → Prop} {M : Sem α} {w w' : World} {a : α} {F : α → World → Result Next} (h : Sem.run P M w = .ok a w') (g : Oper.upon P op act K Q (F a w')) : Oper.upon P op act K Q ((Sem.run P M w).andThen F) := by
  rw [h]; exact g
def insV (x : Nat) : Value := if knownB x = true then .iface 65 (.float .f64 x) else .iface 72 (.agg #[])
set_option maxHeartbeats 400000 in
theorem instrumentOf_any (x : Nat) (hx : x < 18446744073709551616) (w : World) : Calls Try.prog 44 #[.float .f64 x] w fun e w' => e = .returned (insV x) ∧ ∃ n, w' = w.drewN n := by
  have K : Hid (∀ w, Calls Try.prog 28 #[.float .f64 x] w fun e w' => e = .returned (.bool (knownB x)) ∧ ∃ n, w' = w.drewN n) := fun w => implKnown_any x hx w
  unfold insV
  cases h : knownB x
  all_goals
    rw [h] at K
    clear h
    go_enter Try.func44, Try.ntmps44
    go_wp2_with fail
    refine (K.out _).mono ?_
    rintro e w1 ⟨rfl, n, rfl⟩
    go_wp2
    go_ret
    exact ⟨rfl, n, rfl⟩
set_option maxHeartbeats 400000 in
theorem from_any {x y : Nat} {o v : Option Nat} (hx : Fl x o) (hy : Fl y v) (w : World) : Calls Try.prog 66 #[.float .f64 x, .float .f64 y] w fun e w' => ∃ r n, e = .returned (.float .f64 r) ∧ Fl r (distO o v) ∧ w' = w.drewN n := by
  go_enter Try.func66, Try.ntmps66
  go_wp2_with (first | (refine list_fop .sub rfl _ _ _ _ (by rfl) (by rfl) (by rfl) (by rfl) hx hy ?_; intro d n hd) | fail)
  refine (abs_any d hd.1 _).mono ?_
  rintro e w1 ⟨rfl, rfl⟩
  have HD := fl_size hd
  go_wp2
  go_ret
  exact ⟨_, n, rfl, HD, rfl⟩
set_option maxHeartbeats 400000 in
theorem nearW_any {x y z : Nat} {o v a : Option Nat} (hx : Fl x o) (hy : Fl y v) (hz : Fl z a) (w : World) : Calls Try.prog 67 #[.float .f64 x, .float .f64 y, .float .f64 z] w fun e w' => e = .returned (.bool (nearO o v a)) ∧ Below w.heap.size w w' := by
  have FR : Hid (∀ w, Calls Try.prog 66 #[.float .f64 x, .float .f64 y] w fun e w' => ∃ r n, e = .returned (.float .f64 r) ∧ Fl r (distO o v) ∧ w' = w.drewN n) := fun w => from_any hx hy w
  clear hx hy
  go_enter Try.func67, Try.ntmps67
  go_wp2_with fail
  refine (FR.out _).mono ?_
  rintro e w1 ⟨r, n, rfl, hr, rfl⟩
  have ho := fl_order hr hz
  go_wp2
  go_ret
  exact ⟨ret_bool (by unfold nearO leqB; rw [← ho]), (by repeat (first | with_reducible exact Below.refl _ _ | with_reducible refine Below.setCell ?_ (by first | omega | (simp; done) | (simp; omega)) _ | with_reducible refine bDrewN ?_ _ | with_reducible refine Below.drew ?_ | with_reducible refine Below.alloc ?_ (by first | omega | (simp; done) | (simp; omega)) _))⟩
set_option maxHeartbeats 400000 in
theorem nearB_any (y z : Nat) (w : World) : Calls Try.prog 69 #[.agg #[], .float .f64 y, .float .f64 z] w fun e w' => e = .returned (.bool false) ∧ Below w.heap.size w w' := by
  go_enter Try.func69, Try.ntmps69
  go_wp2
  go_ret
  exact ⟨rfl, (by repeat (first | with_reducible exact Below.refl _ _ | with_reducible refine Below.setCell ?_ (by first | omega | (simp; done) | (simp; omega)) _ | with_reducible refine bDrewN ?_ _ | with_reducible refine Below.drew ?_ | with_reducible refine Below.alloc ?_ (by first | omega | (simp; done) | (simp; omega)) _))⟩
end Go.Proofs.Ytffbpidldnbgaaa
