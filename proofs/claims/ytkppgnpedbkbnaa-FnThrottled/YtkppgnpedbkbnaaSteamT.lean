/-
What is proved: Throttle of both packages at every argument.
-/
import Derived.Test.YtkppgnpedbkbnaaSteamA
namespace Go.Proofs.Ytkppgnpedbkbnaa
set_option maxRecDepth 40000
open Go.RowKit
set_option linter.unusedVariables false
set_option linter.unusedSimpArgs false

def throttleIn (p h q : Int) : Prop := steamIn p h ∧ steamIn q h ∧ q ≤ p
/-- What Throttle tells. -/
def SteamT (p h q k t u : Int) (ok : Bool) : Prop := (throttleIn p h q ∧ SteamV q h k t u ok) ∨ (¬ throttleIn p h q ∧ k = 0 ∧ t = 0 ∧ u = 0 ∧ ok = false)
theorem SteamT.one {p h q k t u k' t' u' : Int} {ok ok' : Bool} (a : SteamT p h q k t u ok) (a' : SteamT p h q k' t' u' ok') : k = k' ∧ t = t' ∧ u = u' ∧ ok = ok' := by
  rcases a with ⟨i, a⟩ | ⟨i, rfl, rfl, rfl, rfl⟩ <;> rcases a' with ⟨i', a'⟩ | ⟨i', rfl, rfl, rfl, rfl⟩
  · exact a.one a'
  · exact absurd i i'
  · exact absurd i' i
  · exact ⟨rfl, rfl, rfl, rfl⟩
theorem throttle_some (p h q : Int) : ∃ k t u ok, SteamT p h q k t u ok := by
  by_cases i : throttleIn p h q
  · obtain ⟨k, t, u, ok, hv⟩ := steam_some q h
    exact ⟨k, t, u, ok, .inl ⟨i, hv⟩⟩
  · exact ⟨0, 0, 0, false, .inr ⟨i, rfl, rfl, rfl, rfl⟩⟩
set_option maxRecDepth 20000 in
set_option maxHeartbeats 1000000 in
theorem specThrottle_any (p h q : Int) (w : World) : Calls Try.prog 11 #[.int .i64 p, .int .i64 h, .int .i64 q] w fun e w' => (∃ k t u ok, SteamT p h q k t u ok ∧ e = .returned (.tuple #[.agg #[.int .i64 k, .int .i64 t, .int .i64 u], .bool ok])) ∧ Below w.heap.size w w' := by
  have NO : Hid (¬ throttleIn p h q → SteamT p h q 0 0 0 false) := fun i => .inr ⟨i, rfl, rfl, rfl, rfl⟩
  by_cases i1 : steamIn p h
  · by_cases i2 : steamIn q h
    · by_cases i3 : q ≤ p
      · have YES : Hid (∀ k t u ok, SteamV q h k t u ok → SteamT p h q k t u ok) := fun k t u ok hv => .inl ⟨⟨i1, i2, i3⟩, hv⟩
        go_enter Try.func11, Try.ntmps11
        go_wp2_with fail
        refine (l3Bounds_yes p h _ i1).mono ?_
        rintro e w1 ⟨rfl, hw1⟩
        subst hw1
        go_wp2_with fail
        refine (l3Bounds_yes q h _ i2).mono ?_
        rintro e w1 ⟨rfl, hw1⟩
        subst hw1
        go_wp2_with fail
        refine (specSteamOf_any q h _).mono ?_
        rintro e w2 ⟨⟨k, t, u, ok, hv, rfl⟩, h2⟩
        have SV := YES.out k t u ok hv
        have HS : Hid (SteamT p h q k t u ok) := SV
        have z2 := h2.size
        simp at z2
        have B2 : Below w.heap.size w w2 := (below0 w _).trans (h2.mono (by simp))
        have q0 : w2.cell? ⟨w.heap.size, 0, none⟩ = some (.int .i64 0) := (h2.cell (p := ⟨w.heap.size, 0, none⟩) (by simp)).trans (by simp [go_sem])
        have q1 : w2.cell? ⟨w.heap.size, 1, none⟩ = some (.int .i64 0) := (h2.cell (p := ⟨w.heap.size, 1, none⟩) (by simp)).trans (by simp [go_sem])
        have q2 : w2.cell? ⟨w.heap.size, 2, none⟩ = some (.int .i64 0) := (h2.cell (p := ⟨w.heap.size, 2, none⟩) (by simp)).trans (by simp [go_sem])
        have f0 : ∀ o, w2.frozen? ⟨w.heap.size, o, none⟩ = false := fun o => (h2.frozen (p := ⟨w.heap.size, o, none⟩) (by simp)).trans (by simp [go_sem])
        have zz : w.heap.size < w2.heap.size := by omega
        clear h2 hv SV
        go_wp2
        exact bodyPost_ret (v := .tuple #[.agg #[.int .i64 k, .int .i64 t, .int .i64 u], .bool ok]) (by simp [results, Try.results11, go_sem, q0, q1, q2]) rfl ⟨⟨k, t, u, ok, HS.out, rfl⟩, (by repeat (first | with_reducible exact Below.refl _ _ | with_reducible exact B2 | with_reducible refine Below.setCell ?_ (by first | omega | (simp; done) | (simp; omega)) _ | with_reducible refine bDrewN ?_ _ | with_reducible refine Below.drew ?_ | with_reducible refine Below.alloc ?_ (by first | omega | (simp; done) | (simp; omega)) _))⟩
      · have SV : Hid (SteamT p h q 0 0 0 false) := NO.out fun i => i3 i.2.2
        have i3' : p < q := by omega
        go_enter Try.func11, Try.ntmps11
        go_wp2_with fail
        refine (l3Bounds_yes p h _ i1).mono ?_
        rintro e w1 ⟨rfl, hw1⟩
        subst hw1
        go_wp2_with fail
        refine (l3Bounds_yes q h _ i2).mono ?_
        rintro e w1 ⟨rfl, hw1⟩
        subst hw1
        go_wp2
        exact bodyPost_ret (v := .tuple #[.agg #[.int .i64 0, .int .i64 0, .int .i64 0], .bool false]) (by simp [results, Try.results11, go_sem]) rfl ⟨⟨0, 0, 0, false, SV.out, rfl⟩, (by repeat (first | with_reducible exact Below.refl _ _ | with_reducible refine Below.setCell ?_ (by first | omega | (simp; done) | (simp; omega)) _ | with_reducible refine bDrewN ?_ _ | with_reducible refine Below.drew ?_ | with_reducible refine Below.alloc ?_ (by first | omega | (simp; done) | (simp; omega)) _))⟩
    · have SV : Hid (SteamT p h q 0 0 0 false) := NO.out fun i => i2 i.2.1
      go_enter Try.func11, Try.ntmps11
      go_wp2_with fail
      refine (l3Bounds_yes p h _ i1).mono ?_
      rintro e w1 ⟨rfl, hw1⟩
      subst hw1
      go_wp2_with fail
      refine (l3Bounds_no q h _ i2).mono ?_
      rintro e w1 ⟨rfl, hw1⟩
      subst hw1
      go_wp2
      exact bodyPost_ret (v := .tuple #[.agg #[.int .i64 0, .int .i64 0, .int .i64 0], .bool false]) (by simp [results, Try.results11, go_sem]) rfl ⟨⟨0, 0, 0, false, SV.out, rfl⟩, (by repeat (first | with_reducible exact Below.refl _ _ | with_reducible refine Below.setCell ?_ (by first | omega | (simp; done) | (simp; omega)) _ | with_reducible refine bDrewN ?_ _ | with_reducible refine Below.drew ?_ | with_reducible refine Below.alloc ?_ (by first | omega | (simp; done) | (simp; omega)) _))⟩
  · have SV : Hid (SteamT p h q 0 0 0 false) := NO.out fun i => i1 i.1
    go_enter Try.func11, Try.ntmps11
    go_wp2_with fail
    refine (l3Bounds_no p h _ i1).mono ?_
    rintro e w1 ⟨rfl, hw1⟩
    subst hw1
    go_wp2
    exact bodyPost_ret (v := .tuple #[.agg #[.int .i64 0, .int .i64 0, .int .i64 0], .bool false]) (by simp [results, Try.results11, go_sem]) rfl ⟨⟨0, 0, 0, false, SV.out, rfl⟩, (by repeat (first | with_reducible exact Below.refl _ _ | with_reducible refine Below.setCell ?_ (by first | omega | (simp; done) | (simp; omega)) _ | with_reducible refine bDrewN ?_ _ | with_reducible refine Below.drew ?_ | with_reducible refine Below.alloc ?_ (by first | omega | (simp; done) | (simp; omega)) _))⟩
set_option maxRecDepth 20000 in
set_option maxHeartbeats 1000000 in
theorem implThrottle_any (p h q : Int) (w : World) : Calls Try.prog 12 #[.int .i64 p, .int .i64 h, .int .i64 q] w fun e w' => (∃ k t u ok, SteamT p h q k t u ok ∧ e = .returned (.tuple #[.agg #[.int .i64 k, .int .i64 t, .int .i64 u], .bool ok])) ∧ Below w.heap.size w w' := by
  have NO : Hid (¬ throttleIn p h q → SteamT p h q 0 0 0 false) := fun i => .inr ⟨i, rfl, rfl, rfl, rfl⟩
  by_cases i1 : 10 ≤ p ∧ p ≤ 20000
  · by_cases i3 : q ≤ p
    · have YES : Hid (∀ k t u ok, SteamV q h k t u ok → SteamT p h q k t u ok) := fun k t u ok hv => by
        by_cases i2 : steamIn q h
        · exact .inl ⟨⟨⟨i1.1, i1.2, i2.2.2.1, i2.2.2.2⟩, i2, i3⟩, hv⟩
        · rcases hv with ⟨i, _⟩ | ⟨_, e⟩
          · exact absurd i i2
          · exact .inr ⟨fun i => i2 i.2.1, e⟩
      go_enter Try.func12, Try.ntmps12
      go_wp2_with fail
      refine (pressureOk_yes p _ i1.1 i1.2).mono ?_
      rintro e w1 ⟨rfl, hw1⟩
      subst hw1
      go_wp2_with fail
      refine (implSteamOf_any q h _).mono ?_
      rintro e w2 ⟨⟨k, t, u, ok, hv, rfl⟩, h2⟩
      have SV := YES.out k t u ok hv
      have HS : Hid (SteamT p h q k t u ok) := SV
      have z2 := h2.size
      simp at z2
      have B2 : Below w.heap.size w w2 := (below0 w _).trans (h2.mono (by simp))
      have q0 : w2.cell? ⟨w.heap.size, 0, none⟩ = some (.int .i64 0) := (h2.cell (p := ⟨w.heap.size, 0, none⟩) (by simp)).trans (by simp [go_sem])
      have q1 : w2.cell? ⟨w.heap.size, 1, none⟩ = some (.int .i64 0) := (h2.cell (p := ⟨w.heap.size, 1, none⟩) (by simp)).trans (by simp [go_sem])
      have q2 : w2.cell? ⟨w.heap.size, 2, none⟩ = some (.int .i64 0) := (h2.cell (p := ⟨w.heap.size, 2, none⟩) (by simp)).trans (by simp [go_sem])
      have f0 : ∀ o, w2.frozen? ⟨w.heap.size, o, none⟩ = false := fun o => (h2.frozen (p := ⟨w.heap.size, o, none⟩) (by simp)).trans (by simp [go_sem])
      have zz : w.heap.size < w2.heap.size := by omega
      clear h2 hv SV
      go_wp2
      exact bodyPost_ret (v := .tuple #[.agg #[.int .i64 k, .int .i64 t, .int .i64 u], .bool ok]) (by simp [results, Try.results12, go_sem, q0, q1, q2]) rfl ⟨⟨k, t, u, ok, HS.out, rfl⟩, (by repeat (first | with_reducible exact Below.refl _ _ | with_reducible exact B2 | with_reducible refine Below.setCell ?_ (by first | omega | (simp; done) | (simp; omega)) _ | with_reducible refine bDrewN ?_ _ | with_reducible refine Below.drew ?_ | with_reducible refine Below.alloc ?_ (by first | omega | (simp; done) | (simp; omega)) _))⟩
    · have SV : Hid (SteamT p h q 0 0 0 false) := NO.out fun i => i3 i.2.2
      have i3' : p < q := by omega
      go_enter Try.func12, Try.ntmps12
      go_wp2_with fail
      refine (pressureOk_yes p _ i1.1 i1.2).mono ?_
      rintro e w1 ⟨rfl, hw1⟩
      subst hw1
      go_wp2
      exact bodyPost_ret (v := .tuple #[.agg #[.int .i64 0, .int .i64 0, .int .i64 0], .bool false]) (by simp [results, Try.results12, go_sem]) rfl ⟨⟨0, 0, 0, false, SV.out, rfl⟩, (by repeat (first | with_reducible exact Below.refl _ _ | with_reducible refine Below.setCell ?_ (by first | omega | (simp; done) | (simp; omega)) _ | with_reducible refine bDrewN ?_ _ | with_reducible refine Below.drew ?_ | with_reducible refine Below.alloc ?_ (by first | omega | (simp; done) | (simp; omega)) _))⟩
  · have SV : Hid (SteamT p h q 0 0 0 false) := NO.out fun i => i1 ⟨i.1.1, i.1.2.1⟩
    go_enter Try.func12, Try.ntmps12
    go_wp2_with fail
    refine (pressureOk_no p _ i1).mono ?_
    rintro e w1 ⟨rfl, hw1⟩
    subst hw1
    go_wp2
    exact bodyPost_ret (v := .tuple #[.agg #[.int .i64 0, .int .i64 0, .int .i64 0], .bool false]) (by simp [results, Try.results12, go_sem]) rfl ⟨⟨0, 0, 0, false, SV.out, rfl⟩, (by repeat (first | with_reducible exact Below.refl _ _ | with_reducible refine Below.setCell ?_ (by first | omega | (simp; done) | (simp; omega)) _ | with_reducible refine bDrewN ?_ _ | with_reducible refine Below.drew ?_ | with_reducible refine Below.alloc ?_ (by first | omega | (simp; done) | (simp; omega)) _))⟩
end Go.Proofs.Ytkppgnpedbkbnaa
