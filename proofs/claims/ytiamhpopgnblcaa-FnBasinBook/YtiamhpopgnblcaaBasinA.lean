/-
What is proved: what a day does to a basin, as both packages tell it, whatever the basin, the curve and the day.
-/
import Derived.Test.YtiamhpopgnblcaaBasinS
import Derived.Test.YtiamhpopgnblcaaBasinSY
import Derived.Test.YtiamhpopgnblcaaBasinI
import Derived.Test.YtiamhpopgnblcaaBasinIY
namespace Go.Proofs.Ytiamhpopgnblcaa
set_option maxRecDepth 40000
open Go.RowKit
set_option linter.unusedVariables false
set_option linter.unusedSimpArgs false

theorem specBasin_any (S I O P full q k d y : Int) (ok : Bool) (s : Option Addr) (n c : Nat) (V : Nat → Int) (w : World) (hav : AV n V d y ok) (HR : RowI w s (n * 2) V) :
    Calls Try.prog 11 #[.agg #[.int .i64 S, .int .i64 I, .int .i64 O, .int .i64 P], .int .i64 full, .slice s n c, .agg #[.int .i64 q, .int .i64 k, .int .i64 d]] w fun e w' => e = .returned (.tuple #[.agg #[.int .i64 (nS S I O P full q k y ok), .int .i64 (nI S I O P full q k y ok), .int .i64 (nO S I O P full q k y ok), .int .i64 (nP S I O P full q k y ok)], .bool (goodB S I O P full q k ok)]) ∧ Below w.heap.size w w' := by
  obtain ⟨y1, y2⟩ := av_small hav
  have HA : Hid (∀ s c w, RowI w s (n * 2) V → Calls Try.prog 32 #[.slice s n c, .int .i64 d] w fun e w' => e = .returned (.tuple #[.int .i64 y, .bool ok]) ∧ Below w.heap.size w w') := fun s c w h => (specAlong_any s n c V d w h).mono fun e w' ⟨⟨y', ok', hy, h1⟩, hb⟩ => by
    obtain ⟨rfl, rfl⟩ := AV.one hav hy
    exact ⟨h1, hb⟩
  cases h0 : basB S I O P with
  | false =>
    have hg : goodB S I O P full q k ok = false := by
      unfold goodB; rw [h0]; rfl
    obtain ⟨e1, e2, e3, e4⟩ := no_all (y := y) hg
    rw [e1, e2, e3, e4, hg]
    exact specBasin_no0 S I O P full q k d y ok s n c V w y1 y2 HR HA h0
  | true =>
    cases h1 : inB 0 1000000000 q with
    | false =>
      have hg : goodB S I O P full q k ok = false := by
        unfold goodB; unfold watB; rw [h0, h1]; rfl
      obtain ⟨e1, e2, e3, e4⟩ := no_all (y := y) hg
      rw [e1, e2, e3, e4, hg]
      exact specBasin_no1 S I O P full q k d y ok s n c V w y1 y2 HR HA h0 h1
    | true =>
      cases h2 : inB 0 1000000000 k with
      | false =>
        have hg : goodB S I O P full q k ok = false := by
          unfold goodB; unfold watB; rw [h0, h1, h2]; rfl
        obtain ⟨e1, e2, e3, e4⟩ := no_all (y := y) hg
        rw [e1, e2, e3, e4, hg]
        exact specBasin_no2 S I O P full q k d y ok s n c V w y1 y2 HR HA h0 h1 h2
      | true =>
        cases h3 : inB 0 1000000000000 full with
        | false =>
          have hg : goodB S I O P full q k ok = false := by
            unfold goodB; unfold watB; rw [h0, h1, h2, h3]; rfl
          obtain ⟨e1, e2, e3, e4⟩ := no_all (y := y) hg
          rw [e1, e2, e3, e4, hg]
          exact specBasin_no3 S I O P full q k d y ok s n c V w y1 y2 HR HA h0 h1 h2 h3
        | true =>
          cases hk : ok with
          | false =>
            subst hk
            have hg : goodB S I O P full q k false = false := by
              unfold goodB; unfold watB; rw [h0, h1, h2, h3]; rfl
            obtain ⟨e1, e2, e3, e4⟩ := no_all (y := y) hg
            rw [e1, e2, e3, e4, hg]
            exact specBasin_noA S I O P full q k d y false s n c V w y1 y2 HR HA h0 h1 h2 h3 rfl
          | true =>
            subst hk
            by_cases hI : I + q ≤ 1000000000000
            · have hg : goodB S I O P full q k true = true := by
                unfold goodB; unfold watB; rw [h0, h1, h2, h3]; simpa using hI
              obtain ⟨e1, e2, e3, e4⟩ := yes_all (y := y) hg
              rw [e1, e2, e3, e4, hg]
              exact specBasin_yes S I O P full q k d y true s n c V w y1 y2 HR HA h0 h1 h2 h3 rfl hI _ _ _ rfl rfl rfl
            · have hg : goodB S I O P full q k true = false := by
                unfold goodB; unfold watB; rw [h0, h1, h2, h3]; simpa using (by omega : 1000000000000 < I + q)
              obtain ⟨e1, e2, e3, e4⟩ := no_all (y := y) hg
              rw [e1, e2, e3, e4, hg]
              exact specBasin_noI S I O P full q k d y true s n c V w y1 y2 HR HA h0 h1 h2 h3 rfl (by omega)
theorem implBasin_any (S I O P full q k d y : Int) (ok : Bool) (s : Option Addr) (n c : Nat) (V : Nat → Int) (w : World) (hav : AV n V d y ok) (HR : RowI w s (n * 2) V) :
    Calls Try.prog 15 #[.agg #[.int .i64 S, .int .i64 I, .int .i64 O, .int .i64 P], .int .i64 full, .slice s n c, .agg #[.int .i64 q, .int .i64 k, .int .i64 d]] w fun e w' => e = .returned (.tuple #[.agg #[.int .i64 (nS S I O P full q k y ok), .int .i64 (nI S I O P full q k y ok), .int .i64 (nO S I O P full q k y ok), .int .i64 (nP S I O P full q k y ok)], .bool (goodB S I O P full q k ok)]) ∧ Below w.heap.size w w' := by
  obtain ⟨y1, y2⟩ := av_small hav
  have HA : Hid (∀ s c w, RowI w s (n * 2) V → Calls Try.prog 36 #[.slice s n c, .int .i64 d] w fun e w' => e = .returned (.tuple #[.int .i64 y, .bool ok]) ∧ Below w.heap.size w w') := fun s c w h => (implAlong_any s n c V d w h).mono fun e w' ⟨⟨y', ok', hy, h1⟩, hb⟩ => by
    obtain ⟨rfl, rfl⟩ := AV.one hav hy
    exact ⟨h1, hb⟩
  cases h0 : basB S I O P with
  | false =>
    have hg : goodB S I O P full q k ok = false := by
      unfold goodB; rw [h0]; rfl
    obtain ⟨e1, e2, e3, e4⟩ := no_all (y := y) hg
    rw [e1, e2, e3, e4, hg]
    exact implBasin_no0 S I O P full q k d y ok s n c V w y1 y2 HR HA h0
  | true =>
    cases h12 : watB q k with
    | false =>
      have hg : goodB S I O P full q k ok = false := by
        unfold goodB; rw [h0, h12]; rfl
      obtain ⟨e1, e2, e3, e4⟩ := no_all (y := y) hg
      rw [e1, e2, e3, e4, hg]
      exact implBasin_no1 S I O P full q k d y ok s n c V w y1 y2 HR HA h0 h12
    | true =>
      cases h3 : inB 0 1000000000000 full with
      | false =>
        have hg : goodB S I O P full q k ok = false := by
          unfold goodB; rw [h0, h12, h3]; rfl
        obtain ⟨e1, e2, e3, e4⟩ := no_all (y := y) hg
        rw [e1, e2, e3, e4, hg]
        exact implBasin_no2 S I O P full q k d y ok s n c V w y1 y2 HR HA h0 h12 h3
      | true =>
        cases hk : ok with
        | false =>
          subst hk
          have hg : goodB S I O P full q k false = false := by
            unfold goodB; rw [h0, h12, h3]; rfl
          obtain ⟨e1, e2, e3, e4⟩ := no_all (y := y) hg
          rw [e1, e2, e3, e4, hg]
          exact implBasin_noA S I O P full q k d y false s n c V w y1 y2 HR HA h0 h12 h3 rfl
        | true =>
          subst hk
          by_cases hI : I + q ≤ 1000000000000
          · have hg : goodB S I O P full q k true = true := by
              unfold goodB; rw [h0, h12, h3]; simpa using hI
            obtain ⟨e1, e2, e3, e4⟩ := yes_all (y := y) hg
            rw [e1, e2, e3, e4, hg]
            exact implBasin_yes S I O P full q k d y true s n c V w y1 y2 HR HA h0 h12 h3 rfl hI _ _ _ rfl rfl rfl
          · have hg : goodB S I O P full q k true = false := by
              unfold goodB; rw [h0, h12, h3]; simpa using (by omega : 1000000000000 < I + q)
            obtain ⟨e1, e2, e3, e4⟩ := no_all (y := y) hg
            rw [e1, e2, e3, e4, hg]
            exact implBasin_noI S I O P full q k d y true s n c V w y1 y2 HR HA h0 h12 h3 rfl (by omega)
end Go.Proofs.Ytiamhpopgnblcaa
