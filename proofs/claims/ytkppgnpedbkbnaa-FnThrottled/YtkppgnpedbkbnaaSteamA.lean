/-
What is proved: SteamOf of both packages at every pressure and every heat.
-/
import Derived.Test.YtkppgnpedbkbnaaSteamI
import Derived.Test.YtkppgnpedbkbnaaAlongA
namespace Go.Proofs.Ytkppgnpedbkbnaa
set_option maxRecDepth 40000
open Go.RowKit
set_option linter.unusedVariables false
set_option linter.unusedSimpArgs false

theorem HtV.one {Y : Nat → Int} (hY : curveB 6 (curveV Y) = true) {p v v' : Int} (h : HtV Y p v) (h' : HtV Y p v') : v = v' := ((ht_av hY h).one (ht_av hY h')).1
theorem ht_some {Y : Nat → Int} (hY : curveB 6 (curveV Y) = true) {p : Int} (p0 : 10 ≤ p) (p1 : p ≤ 20000) : ∃ v, HtV Y p v := by
  obtain ⟨y, ok, h⟩ := av_exists 6 (curveV Y) p
  rcases h with ⟨h1, _⟩ | ⟨h1, h2⟩
  · rw [hY] at h1; cases h1
  · rcases h2 with ⟨h2, _⟩ | ⟨j, a, b, c, d, _⟩
    · exfalso
      have e0 := curve_xs Y 0
      have e1 := curve_xs Y 5
      simp only [Nat.zero_mul] at e0
      have x0 : xsV 0 = 10 := rfl
      have x5 : xsV 5 = 20000 := rfl
      rw [e0, x0, show (6 - 1) * 2 = 5 * 2 by decide, e1, x5] at h2
      omega
    · exact ⟨y, j, a, b, c, d⟩
def steamIn (p h : Int) : Prop := 10 ≤ p ∧ p ≤ 20000 ∧ 0 ≤ h ∧ h ≤ 40000
/-- What SteamOf tells. -/
def SteamV (p h k t u : Int) (ok : Bool) : Prop := (steamIn p h ∧ ∃ b l v, HtV yB p b ∧ HtV yL p l ∧ HtV yV p v ∧ k = stK b l v h ∧ t = stT b l v h ∧ u = stP b l v h ∧ ok = true) ∨ (¬ steamIn p h ∧ k = 0 ∧ t = 0 ∧ u = 0 ∧ ok = false)
theorem SteamV.one {p h k t u k' t' u' : Int} {ok ok' : Bool} (a : SteamV p h k t u ok) (a' : SteamV p h k' t' u' ok') : k = k' ∧ t = t' ∧ u = u' ∧ ok = ok' := by
  rcases a with ⟨i, b, l, v, h1, h2, h3, rfl, rfl, rfl, rfl⟩ | ⟨i, rfl, rfl, rfl, rfl⟩ <;> rcases a' with ⟨i', b', l', v', g1, g2, g3, rfl, rfl, rfl, rfl⟩ | ⟨i', rfl, rfl, rfl, rfl⟩
  · obtain rfl := h1.one okB g1
    obtain rfl := h2.one okL g2
    obtain rfl := h3.one okV g3
    exact ⟨rfl, rfl, rfl, rfl⟩
  · exact absurd i i'
  · exact absurd i' i
  · exact ⟨rfl, rfl, rfl, rfl⟩
theorem steam_some (p h : Int) : ∃ k t u ok, SteamV p h k t u ok := by
  by_cases i : steamIn p h
  · obtain ⟨b, hb⟩ := ht_some okB i.1 i.2.1
    obtain ⟨l, hl⟩ := ht_some okL i.1 i.2.1
    obtain ⟨v, hv⟩ := ht_some okV i.1 i.2.1
    exact ⟨_, _, _, true, .inl ⟨i, b, l, v, hb, hl, hv, rfl, rfl, rfl, rfl⟩⟩
  · exact ⟨0, 0, 0, false, .inr ⟨i, rfl, rfl, rfl, rfl⟩⟩
set_option maxHeartbeats 400000 in
theorem l3Bounds_yes (p h : Int) (w : World) (i : steamIn p h) : Calls Try.prog 32 #[.int .i64 p, .int .i64 h] w fun e w' => e = .returned (.bool true) ∧ w' = w := by
  go_enter Try.func32, Try.ntmps32
  go_wp2_with fail
  refine (l1In_yes _ _ _ _ i.1 i.2.1).mono ?_
  rintro e w ⟨rfl, rfl⟩
  go_wp2_with fail
  refine (l1In_yes _ _ _ _ i.2.2.1 i.2.2.2).mono ?_
  rintro e w ⟨rfl, rfl⟩
  go_wp2
  go_ret
  exact ⟨rfl, rfl⟩
set_option maxHeartbeats 400000 in
theorem l3Bounds_no (p h : Int) (w : World) (i : ¬ steamIn p h) : Calls Try.prog 32 #[.int .i64 p, .int .i64 h] w fun e w' => e = .returned (.bool false) ∧ w' = w := by
  by_cases q : 10 ≤ p ∧ p ≤ 20000
  · go_enter Try.func32, Try.ntmps32
    go_wp2_with fail
    refine (l1In_yes _ _ _ _ q.1 q.2).mono ?_
    rintro e w ⟨rfl, rfl⟩
    go_wp2_with fail
    refine (l1In_no _ _ _ _ (by unfold steamIn at i; omega)).mono ?_
    rintro e w ⟨rfl, rfl⟩
    go_wp2
    go_ret
    exact ⟨rfl, rfl⟩
  · go_enter Try.func32, Try.ntmps32
    go_wp2_with fail
    refine (l1In_no _ _ _ _ (by omega)).mono ?_
    rintro e w ⟨rfl, rfl⟩
    go_wp2
    go_ret
    exact ⟨rfl, rfl⟩
theorem specAt {Y : Nat → Int} (hY : curveB 6 (curveV Y) = true) {p v : Int} (h : HtV Y p v) : ∀ s c w, RowI w s 12 (curveV Y) → Calls Try.prog 19 #[.slice s 6 c, .int .i64 p] w fun e w' => e = .returned (.tuple #[.int .i64 v, .bool true]) ∧ Below w.heap.size w w' := fun s c w HR => by
  refine (specAlong_any s 6 c (curveV Y) p w HR).mono ?_
  rintro e w' ⟨⟨y, ok, hA, rfl⟩, hb⟩
  obtain ⟨rfl, rfl⟩ := hA.one (ht_av hY h)
  exact ⟨rfl, hb⟩
set_option maxHeartbeats 400000 in
theorem specSteam_no (p h : Int) (w : World) (I : Hid (∀ w, Calls Try.prog 32 #[.int .i64 p, .int .i64 h] w fun e w' => e = .returned (.bool false) ∧ w' = w)) :
    Calls Try.prog 23 #[.int .i64 p, .int .i64 h] w fun e w' => e = .returned (.tuple #[.agg #[.int .i64 0, .int .i64 0, .int .i64 0], .bool false]) ∧ Below w.heap.size w w' := by
  go_enter Try.func23, Try.ntmps23
  go_wp2_with fail
  refine (I.out _).mono ?_
  rintro e w1 ⟨rfl, hw1⟩
  subst hw1
  go_wp2
  exact bodyPost_ret (v := .tuple #[.agg #[.int .i64 0, .int .i64 0, .int .i64 0], .bool false]) (by simp [results, Try.results23, go_sem]) rfl ⟨rfl, (by repeat (first | with_reducible exact Below.refl _ _ | with_reducible refine Below.setCell ?_ (by first | omega | (simp; done) | (simp; omega)) _ | with_reducible refine bDrewN ?_ _ | with_reducible refine Below.drew ?_ | with_reducible refine Below.alloc ?_ (by first | omega | (simp; done) | (simp; omega)) _))⟩
theorem specSteamOf_any (p h : Int) (w : World) : Calls Try.prog 23 #[.int .i64 p, .int .i64 h] w fun e w' => (∃ k t u ok, SteamV p h k t u ok ∧ e = .returned (.tuple #[.agg #[.int .i64 k, .int .i64 t, .int .i64 u], .bool ok])) ∧ Below w.heap.size w w' := by
  by_cases i : steamIn p h
  · obtain ⟨b, hb⟩ := ht_some okB i.1 i.2.1
    obtain ⟨l, hl⟩ := ht_some okL i.1 i.2.1
    obtain ⟨v, hv⟩ := ht_some okV i.1 i.2.1
    have B := ht_bd hb bdB
    have L := ht_bd hl bdL
    have U := ht_bd hv bdV
    refine (specSteam_in p h b l v w i.2.2.1 i.2.2.2 (by omega) (by omega) (by omega) (by omega) (by omega) (fun w => l3Bounds_yes p h w i) (specAt okB hb) (specAt okL hl) (specAt okV hv)).mono ?_
    rintro e w' ⟨rfl, hB⟩
    exact ⟨⟨_, _, _, true, .inl ⟨i, b, l, v, hb, hl, hv, rfl, rfl, rfl, rfl⟩, rfl⟩, hB⟩
  · refine (specSteam_no p h w (fun w => l3Bounds_no p h w i)).mono ?_
    rintro e w' ⟨rfl, hB⟩
    exact ⟨⟨0, 0, 0, false, .inr ⟨i, rfl, rfl, rfl, rfl⟩, rfl⟩, hB⟩
set_option maxHeartbeats 400000 in
theorem pressureOk_yes (p : Int) (w : World) (h0 : 10 ≤ p) (h1 : p ≤ 20000) : Calls Try.prog 33 #[.int .i64 p] w fun e w' => e = .returned (.bool true) ∧ w' = w := by
  go_enter Try.func33, Try.ntmps33
  go_wp2_with fail
  refine (within_yes _ _ _ _ h0 h1).mono ?_
  rintro e w ⟨rfl, rfl⟩
  go_wp2
  go_ret
  exact ⟨rfl, rfl⟩
set_option maxHeartbeats 400000 in
theorem pressureOk_no (p : Int) (w : World) (h : ¬ (10 ≤ p ∧ p ≤ 20000)) : Calls Try.prog 33 #[.int .i64 p] w fun e w' => e = .returned (.bool false) ∧ w' = w := by
  go_enter Try.func33, Try.ntmps33
  go_wp2_with fail
  refine (within_no _ _ _ _ (by omega)).mono ?_
  rintro e w ⟨rfl, rfl⟩
  go_wp2
  go_ret
  exact ⟨rfl, rfl⟩
set_option maxHeartbeats 400000 in
theorem heatOk_yes (p : Int) (w : World) (h0 : 0 ≤ p) (h1 : p ≤ 40000) : Calls Try.prog 34 #[.int .i64 p] w fun e w' => e = .returned (.bool true) ∧ w' = w := by
  go_enter Try.func34, Try.ntmps34
  go_wp2_with fail
  refine (within_yes _ _ _ _ h0 h1).mono ?_
  rintro e w ⟨rfl, rfl⟩
  go_wp2
  go_ret
  exact ⟨rfl, rfl⟩
set_option maxHeartbeats 400000 in
theorem heatOk_no (p : Int) (w : World) (h : ¬ (0 ≤ p ∧ p ≤ 40000)) : Calls Try.prog 34 #[.int .i64 p] w fun e w' => e = .returned (.bool false) ∧ w' = w := by
  go_enter Try.func34, Try.ntmps34
  go_wp2_with fail
  refine (within_no _ _ _ _ (by omega)).mono ?_
  rintro e w ⟨rfl, rfl⟩
  go_wp2
  go_ret
  exact ⟨rfl, rfl⟩
set_option maxRecDepth 20000 in
set_option maxHeartbeats 1000000 in
theorem implSteamOf_any (p h : Int) (w : World) : Calls Try.prog 13 #[.int .i64 p, .int .i64 h] w fun e w' => (∃ k t u ok, SteamV p h k t u ok ∧ e = .returned (.tuple #[.agg #[.int .i64 k, .int .i64 t, .int .i64 u], .bool ok])) ∧ Below w.heap.size w w' := by
  by_cases q : 10 ≤ p ∧ p ≤ 20000
  · obtain ⟨p0, p1⟩ := q
    by_cases q2 : 0 ≤ h ∧ h ≤ 40000
    · obtain ⟨h0, h1⟩ := q2
      go_enter Try.func13, Try.ntmps13
      go_wp2_with fail
      refine (pressureOk_yes _ _ p0 p1).mono ?_
      rintro e w1 ⟨rfl, hw1⟩
      subst hw1
      go_wp2_with fail
      refine (heatOk_yes _ _ h0 h1).mono ?_
      rintro e w1 ⟨rfl, hw1⟩
      subst hw1
      go_wp2_with fail
      refine (boilingAt_any p _ p0 p1).mono ?_
      rintro e w1 ⟨⟨b, l, v, hb, hl, hv, rfl⟩, h1'⟩
      have B := ht_bd hb bdB
      have L := ht_bd hl bdL
      have U := ht_bd hv bdV
      have SV : Hid (SteamV p h (stK b l v h) (stT b l v h) (stP b l v h) true) := .inl ⟨⟨p0, p1, h0, h1⟩, b, l, v, hb, hl, hv, rfl, rfl, rfl, rfl⟩
      go_wp2_with fail
      refine (state_any h b l v _ h0 h1 (by omega) (by omega) (by omega) (by omega) (by omega)).mono ?_
      rintro e w2 ⟨rfl, h2⟩
      have BB : Below (w.heap.size + 1) (w.alloc (.cells #[.int .i64 0, .int .i64 0, .int .i64 0] 27)) w2 := by
        have g1 : Below (w.heap.size + 1) (w.alloc (.cells #[.int .i64 0, .int .i64 0, .int .i64 0] 27)) w1 := h1'.mono (by simp)
        exact g1.trans (h2.mono (by have := h1'.size; simp at this; omega))
      have B2 : Below w.heap.size w w2 := (below0 w _).trans (BB.mono (by omega))
      have q0 : w2.cell? ⟨w.heap.size, 0, none⟩ = some (.int .i64 0) := (BB.cell (p := ⟨w.heap.size, 0, none⟩) (by simp only; omega)).trans (by simp [go_sem])
      have q1 : w2.cell? ⟨w.heap.size, 1, none⟩ = some (.int .i64 0) := (BB.cell (p := ⟨w.heap.size, 1, none⟩) (by simp only; omega)).trans (by simp [go_sem])
      have q2 : w2.cell? ⟨w.heap.size, 2, none⟩ = some (.int .i64 0) := (BB.cell (p := ⟨w.heap.size, 2, none⟩) (by simp only; omega)).trans (by simp [go_sem])
      have f0 : ∀ o, w2.frozen? ⟨w.heap.size, o, none⟩ = false := fun o => (BB.frozen (p := ⟨w.heap.size, o, none⟩) (by simp only; omega)).trans (by simp [go_sem])
      have zz : w.heap.size < w2.heap.size := by have := BB.size; simp at this; omega
      clear BB h1' h2 hb hl hv
      generalize stK b l v h = k at *
      generalize stT b l v h = t at *
      generalize stP b l v h = u at *
      go_wp2
      exact bodyPost_ret (v := .tuple #[.agg #[.int .i64 k, .int .i64 t, .int .i64 u], .bool true]) (by simp [results, Try.results13, go_sem, q0, q1, q2]) rfl ⟨⟨k, t, u, true, SV.out, rfl⟩, (by repeat (first | with_reducible exact Below.refl _ _ | with_reducible exact B2 | with_reducible refine Below.setCell ?_ (by first | omega | (simp; done) | (simp; omega)) _ | with_reducible refine bDrewN ?_ _ | with_reducible refine Below.drew ?_ | with_reducible refine Below.alloc ?_ (by first | omega | (simp; done) | (simp; omega)) _))⟩
    · have SV : Hid (SteamV p h 0 0 0 false) := .inr ⟨fun i => q2 ⟨i.2.2.1, i.2.2.2⟩, rfl, rfl, rfl, rfl⟩
      go_enter Try.func13, Try.ntmps13
      go_wp2_with fail
      refine (pressureOk_yes _ _ p0 p1).mono ?_
      rintro e w1 ⟨rfl, hw1⟩
      subst hw1
      go_wp2_with fail
      refine (heatOk_no _ _ q2).mono ?_
      rintro e w1 ⟨rfl, hw1⟩
      subst hw1
      go_wp2
      exact bodyPost_ret (v := .tuple #[.agg #[.int .i64 0, .int .i64 0, .int .i64 0], .bool false]) (by simp [results, Try.results13, go_sem]) rfl ⟨⟨0, 0, 0, false, SV.out, rfl⟩, (by repeat (first | with_reducible exact Below.refl _ _ | with_reducible refine Below.setCell ?_ (by first | omega | (simp; done) | (simp; omega)) _ | with_reducible refine bDrewN ?_ _ | with_reducible refine Below.drew ?_ | with_reducible refine Below.alloc ?_ (by first | omega | (simp; done) | (simp; omega)) _))⟩
  · have SV : Hid (SteamV p h 0 0 0 false) := .inr ⟨fun i => q ⟨i.1, i.2.1⟩, rfl, rfl, rfl, rfl⟩
    go_enter Try.func13, Try.ntmps13
    go_wp2_with fail
    refine (pressureOk_no _ _ q).mono ?_
    rintro e w1 ⟨rfl, hw1⟩
    subst hw1
    go_wp2
    exact bodyPost_ret (v := .tuple #[.agg #[.int .i64 0, .int .i64 0, .int .i64 0], .bool false]) (by simp [results, Try.results13, go_sem]) rfl ⟨⟨0, 0, 0, false, SV.out, rfl⟩, (by repeat (first | with_reducible exact Below.refl _ _ | with_reducible refine Below.setCell ?_ (by first | omega | (simp; done) | (simp; omega)) _ | with_reducible refine bDrewN ?_ _ | with_reducible refine Below.drew ?_ | with_reducible refine Below.alloc ?_ (by first | omega | (simp; done) | (simp; omega)) _))⟩
set_option maxHeartbeats 400000 in
theorem eqState_any (a b c : Int) (w : World) :
    Calls Try.prog 24 #[.agg #[.int .i64 a, .int .i64 b, .int .i64 c], .agg #[.int .i64 a, .int .i64 b, .int .i64 c]] w fun e w' => e = .returned (.bool true) ∧ Below w.heap.size w w' := by
  go_enter Try.func24, Try.ntmps24
  go_wp2
  go_ret
  exact ⟨rfl, (by repeat (first | with_reducible exact Below.refl _ _ | with_reducible refine Below.setCell ?_ (by first | omega | (simp; done) | (simp; omega)) _ | with_reducible refine bDrewN ?_ _ | with_reducible refine Below.drew ?_ | with_reducible refine Below.alloc ?_ (by first | omega | (simp; done) | (simp; omega)) _))⟩
end Go.Proofs.Ytkppgnpedbkbnaa
