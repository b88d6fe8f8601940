/-
What is proved: the first reading that surges, as both packages tell it.
-/
import Derived.Test.YtbabedfbadlhjaaMapK
import Derived.Deep.DeepCutAuto
import Derived.Deep.RegionHeld3
namespace Go.Proofs.Ytbabedfbadlhjaa
set_option maxRecDepth 40000
open Go.RowKit
set_option linter.unusedVariables false
set_option linter.unusedSimpArgs false

def firstI (p : Nat → Bool) : Nat → Nat → Int
  | _, 0 => -1
  | k, m + 1 => if p k then (k : Int) else firstI p (k + 1) m
theorem firstI_yes {p : Nat → Bool} {k n : Nat} (h : k < n) (hp : p k = true) : firstI p k (n - k) = k := by
  obtain ⟨m, e⟩ : ∃ m, n - k = m + 1 := ⟨n - k - 1, by omega⟩
  rw [e]; unfold firstI; rw [if_pos hp]
theorem firstI_no {p : Nat → Bool} {k n : Nat} (h : k < n) (hp : p k = false) : firstI p k (n - k) = firstI p (k + 1) (n - (k + 1)) := by
  obtain ⟨m, e⟩ : ∃ m, n - k = m + 1 := ⟨n - k - 1, by omega⟩
  have e' : n - (k + 1) = m := by omega
  rw [e, e']; conv => lhs; unfold firstI
  rw [hp]; rfl
def surgeP (G : Int → Option Nat) (P F : Nat → Int) (k : Nat) : Bool := ordO (some (itf (F k))) (G (P k)) == some .lt
def surgesI (G : Int → Option Nat) (P F : Nat → Int) (n m : Nat) : Int := if n = m ∧ n ≤ 400 then firstI (surgeP G P F) 0 n else -1
theorem keep2s {W W' : World} {p q i j : Nat} {a b : Value} (h0 : W.cell? ⟨p, i, none⟩ = some a) (h1 : W.cell? ⟨q, j, none⟩ = some b) (hp : p < W.heap.size) (hq : q < W.heap.size) (hb : Below W.heap.size W W') : W'.cell? ⟨p, i, none⟩ = some a ∧ W'.cell? ⟨q, j, none⟩ = some b :=
  ⟨(hb.cell (p := ⟨p, i, none⟩) hp).trans h0, (hb.cell (p := ⟨q, j, none⟩) hq).trans h1⟩
theorem keep1s {W W' : World} {q j : Nat} {b : Value} (h1 : W.cell? ⟨q, j, none⟩ = some b) (hq : q < W.heap.size) (hb : Below W.heap.size W W') : W'.cell? ⟨q, j, none⟩ = some b :=
  (hb.cell (p := ⟨q, j, none⟩) hq).trans h1

set_option maxHeartbeats 800000 in
theorem specSurges_no (s : Option Addr) (l c : Nat) (s1 : Option Addr) (n c1 : Nat) (s2 : Option Addr) (m c2 : Nat) (w : World) (h : ¬ ((n : Int) = m ∧ (n : Int) ≤ 400)) : Calls Try.prog 16 #[.slice s l c, .slice s1 n c1, .slice s2 m c2] w fun e w' => e = .returned (.int .i64 (-1)) ∧ Below w.heap.size w w' := by
  by_cases q : (n : Int) = m
  · have q2 : (400 : Int) < n := by omega
    have q3 : n = m := by omega
    subst q3
    clear h q
    go_enter Try.func16, Try.ntmps16
    go_wp2
    go_ret
    exact ⟨rfl, Below.refl _ _⟩
  · clear h
    go_enter Try.func16, Try.ntmps16
    go_wp2
    go_ret
    exact ⟨rfl, Below.refl _ _⟩
set_option maxRecDepth 20000 in
set_option maxHeartbeats 2000000 in
theorem specSurges_go (s : Option Addr) (l c : Nat) (S : Nat → Int) (K : Nat → Nat) (V : Nat → Nat → Int) (s1 : Option Addr) (n c1 : Nat) (P : Nat → Int) (s2 : Option Addr) (c2 : Nat) (F : Nat → Int) (G : Int → Option Nat) (w : World) (hn : (n : Int) ≤ 400) (HR : Hid (MapR w s l S K V)) (H1 : Hid (RowI w s1 n P)) (H2 : Hid (RowI w s2 n F))
    (T : Hid (∀ x w, MapR w s l S K V → Calls Try.prog 24 #[.slice s l c, .int .i64 x] w fun e w' => ∃ r, e = .returned (.float .f64 r) ∧ Fl r (G x) ∧ Below w.heap.size w w')) :
    Calls Try.prog 16 #[.slice s l c, .slice s1 n c1, .slice s2 n c2] w fun e w' => e = .returned (.int .i64 (firstI (surgeP G P F) 0 n)) ∧ Below w.heap.size w w' := by
  have cv : ∀ k w, (convert 2 30 (.int .i64 k)).run Try.prog w = .ok (.float .f64 (itf k)) w := fun k w => conv_run k w
  go_enter Try.func16, Try.ntmps16
  go_wp2_with fail
  go_loopw [7] (fun i wr => ∃ k : Nat, k ≤ n ∧ i = .int .i64 k ∧ Below w.heap.size w wr ∧ Hid (firstI (surgeP G P F) 0 n = firstI (surgeP G P F) k (n - k))) (fun i _ => n - (intOf i).toNat)
  case atStart => exact ⟨0, Nat.zero_le _, rfl, (by repeat (first | with_reducible exact Below.refl _ _ | with_reducible refine Below.setCell ?_ (by first | omega | (simp; done) | (simp; omega)) _ | with_reducible refine bDrewN ?_ _ | with_reducible refine Below.drew ?_ | with_reducible refine Below.alloc ?_ (by first | omega | (simp; done) | (simp; omega)) _)), rfl⟩
  case round =>
    obtain ⟨k, hk, rfl, hB, ho⟩ := hrel
    by_cases h1 : k < n
    · obtain ⟨g, o, rfl, hg, a1⟩ := H1.out k h1
      obtain ⟨g2, o2, rfl, hg2, a2⟩ := H2.out k h1
      have u1 : wr.cell? ⟨g, o + k, none⟩ = some (.int .i64 (P k)) := (hB.cell (p := ⟨g, o + k, none⟩) hg).trans a1
      have u2 : wr.cell? ⟨g2, o2 + k, none⟩ = some (.int .i64 (F k)) := (hB.cell (p := ⟨g2, o2 + k, none⟩) hg2).trans a2
      have zg : g < wr.heap.size := Nat.lt_of_lt_of_le hg hB.size
      have zg2 : g2 < wr.heap.size := Nat.lt_of_lt_of_le hg2 hB.size
      have k1 : (k : Int) < (n : Int) := by omega
      have HN : Hid (k < n) := h1
      have HM : Hid (MapR wr s l S K V) := HR.out.below hB
      clear a1 a2 hg hg2
      obtain ⟨pk, hp⟩ : ∃ pk, surgeP G P F k = pk := ⟨_, rfl⟩
      have HP : Hid (surgeP G P F k = pk) := hp
      clear hp
      go_upto_region 6 with fail
      go_cut [35] (fun s wx => s = .bool pk ∧ Below wr.heap.size wr wx)
      case first =>
        go_region_held3 (fun w' => w'.cell? ⟨g, o + k, none⟩ = some (.int .i64 (P k)) ∧ w'.cell? ⟨g2, o2 + k, none⟩ = some (.int .i64 (F k))) (first | (refine keep2s u1 u2 zg zg2 ?_; exact (by repeat (first | with_reducible exact Below.refl _ _ | with_reducible exact B3 | with_reducible refine Below.setCell ?_ (by first | omega | (simp; done) | (simp; omega)) _ | with_reducible refine bDrewN ?_ _ | with_reducible refine Below.drew ?_ | with_reducible refine Below.alloc ?_ (by first | omega | (simp; done) | (simp; omega)) _)))) (first
          | (go_at_call 24; refine (T.out _ _ (HM.out.below (by repeat (first | with_reducible exact Below.refl _ _ | with_reducible refine Below.setCell ?_ (by first | omega | (simp; done) | (simp; omega)) _ | with_reducible refine bDrewN ?_ _ | with_reducible refine Below.drew ?_ | with_reducible refine Below.alloc ?_ (by first | omega | (simp; done) | (simp; omega)) _)))).mono ?_; rintro e w3 ⟨f, rfl, hf, h3⟩; have B3 : Below wr.heap.size wr w3 := Below.trans (by repeat (first | with_reducible exact Below.refl _ _ | with_reducible refine Below.setCell ?_ (by first | omega | (simp; done) | (simp; omega)) _ | with_reducible refine bDrewN ?_ _ | with_reducible refine Below.drew ?_ | with_reducible refine Below.alloc ?_ (by first | omega | (simp; done) | (simp; omega)) _)) (h3.mono (by first | omega | (simp; done) | (simp; omega))); have s3 := B3.size; have hx : (FloatKind.f64.format.order (itf (F k)) f == some .lt) = pk := (by rw [fl_order (itf_fl _) hf]; exact HP.out); clear h3))
        all_goals
          go_wp2_with fail
          go_meet
          case rel => exact ⟨by first | rfl | (simp [hx]), (by repeat (first | with_reducible exact Below.refl _ _ | with_reducible exact B3 | with_reducible refine Below.setCell ?_ (by first | omega | (simp; done) | (simp; omega)) _ | with_reducible refine bDrewN ?_ _ | with_reducible refine Below.drew ?_ | with_reducible refine Below.alloc ?_ (by first | omega | (simp; done) | (simp; omega)) _))⟩
      case rest =>
        obtain ⟨rfl, hC⟩ := hcut
        have BC : Below w.heap.size w wc := hB.trans (hC.mono hB.size)
        clear u1 u2 hC
        cases pk
        · have on : Hid (firstI (surgeP G P F) 0 n = firstI (surgeP G P F) (k + 1) (n - (k + 1))) := ho.out.trans (firstI_no HN.out HP.out)
          go_wp2
          go_roundw
          case rel => exact ⟨k + 1, by omega, by go_num, (by repeat (first | with_reducible exact Below.refl _ _ | with_reducible exact BC | with_reducible refine Below.setCell ?_ (by first | omega | (simp; done) | (simp; omega)) _ | with_reducible refine bDrewN ?_ _ | with_reducible refine Below.drew ?_ | with_reducible refine Below.alloc ?_ (by first | omega | (simp; done) | (simp; omega)) _)), on⟩
          case measure => simp [intOf]; omega
        · have on : Hid (firstI (surgeP G P F) 0 n = k) := ho.out.trans (firstI_yes HN.out HP.out)
          go_wp2
          exact bodyPost_ret (v := .int .i64 k) (by simp [results, Try.results16, go_sem]) rfl ⟨by rw [on.out], (by repeat (first | with_reducible exact Below.refl _ _ | with_reducible exact BC | with_reducible refine Below.setCell ?_ (by first | omega | (simp; done) | (simp; omega)) _ | with_reducible refine bDrewN ?_ _ | with_reducible refine Below.drew ?_ | with_reducible refine Below.alloc ?_ (by first | omega | (simp; done) | (simp; omega)) _))⟩
    · have e1 : k = n := by omega
      subst e1
      have on : Hid (firstI (surgeP G P F) 0 k = -1) := by show firstI (surgeP G P F) 0 k = -1; rw [ho.out, Nat.sub_self]; rfl
      go_wp2
      go_ret
      exact ⟨by rw [on.out]; rfl, (by repeat (first | with_reducible exact Below.refl _ _ | with_reducible exact hB | with_reducible refine Below.setCell ?_ (by first | omega | (simp; done) | (simp; omega)) _ | with_reducible refine bDrewN ?_ _ | with_reducible refine Below.drew ?_ | with_reducible refine Below.alloc ?_ (by first | omega | (simp; done) | (simp; omega)) _))⟩

set_option maxHeartbeats 800000 in
theorem implSurges_no (s : Option Addr) (l c : Nat) (s1 : Option Addr) (n c1 : Nat) (s2 : Option Addr) (m c2 : Nat) (w : World) (h : ¬ ((n : Int) = m ∧ (n : Int) ≤ 400)) : Calls Try.prog 17 #[.slice s l c, .slice s1 n c1, .slice s2 m c2] w fun e w' => e = .returned (.int .i64 (-1)) ∧ Below w.heap.size w w' := by
  by_cases q : (n : Int) = m
  · have q2 : (400 : Int) < n := by omega
    have q3 : n = m := by omega
    subst q3
    clear h q
    go_enter Try.func17, Try.ntmps17
    go_wp2
    go_ret
    exact ⟨rfl, Below.refl _ _⟩
  · clear h
    go_enter Try.func17, Try.ntmps17
    go_wp2
    go_ret
    exact ⟨rfl, Below.refl _ _⟩
set_option maxRecDepth 20000 in
set_option maxHeartbeats 2000000 in
theorem implSurges_go (s : Option Addr) (l c : Nat) (S : Nat → Int) (K : Nat → Nat) (V : Nat → Nat → Int) (s1 : Option Addr) (n c1 : Nat) (P : Nat → Int) (s2 : Option Addr) (c2 : Nat) (F : Nat → Int) (G : Int → Option Nat) (w : World) (hn : (n : Int) ≤ 400) (HR : Hid (MapR w s l S K V)) (H1 : Hid (RowI w s1 n P)) (H2 : Hid (RowI w s2 n F))
    (T : Hid (∀ x w, MapR w s l S K V → Calls Try.prog 14 #[.slice s l c, .int .i64 x] w fun e w' => ∃ r, e = .returned (.float .f64 r) ∧ Fl r (G x) ∧ Below w.heap.size w w')) :
    Calls Try.prog 17 #[.slice s l c, .slice s1 n c1, .slice s2 n c2] w fun e w' => e = .returned (.int .i64 (firstI (surgeP G P F) 0 n)) ∧ Below w.heap.size w w' := by
  have cv : ∀ k w, (convert 2 30 (.int .i64 k)).run Try.prog w = .ok (.float .f64 (itf k)) w := fun k w => conv_run k w
  go_enter Try.func17, Try.ntmps17
  go_wp2_with fail
  go_loopw [21, 7, 8] (fun i i7 i8 wr => ∃ k : Nat, k ≤ n ∧ i = .int .i64 k ∧ Below w.heap.size w wr ∧ Hid (firstI (surgeP G P F) 0 n = firstI (surgeP G P F) k (n - k))) (fun i _ _ _ => n - (intOf i).toNat)
  case atStart => exact ⟨0, Nat.zero_le _, rfl, (by repeat (first | with_reducible exact Below.refl _ _ | with_reducible refine Below.setCell ?_ (by first | omega | (simp; done) | (simp; omega)) _ | with_reducible refine bDrewN ?_ _ | with_reducible refine Below.drew ?_ | with_reducible refine Below.alloc ?_ (by first | omega | (simp; done) | (simp; omega)) _)), rfl⟩
  case round =>
    obtain ⟨k, hk, rfl, hB, ho⟩ := hrel
    by_cases h1 : k < n
    · obtain ⟨g, o, rfl, hg, a1⟩ := H1.out k h1
      obtain ⟨g2, o2, rfl, hg2, a2⟩ := H2.out k h1
      have u1 : wr.cell? ⟨g, o + k, none⟩ = some (.int .i64 (P k)) := (hB.cell (p := ⟨g, o + k, none⟩) hg).trans a1
      have u2 : wr.cell? ⟨g2, o2 + k, none⟩ = some (.int .i64 (F k)) := (hB.cell (p := ⟨g2, o2 + k, none⟩) hg2).trans a2
      have zg : g < wr.heap.size := Nat.lt_of_lt_of_le hg hB.size
      have zg2 : g2 < wr.heap.size := Nat.lt_of_lt_of_le hg2 hB.size
      have k1 : (k : Int) < (n : Int) := by omega
      have HN : Hid (k < n) := h1
      have HM : Hid (MapR wr s l S K V) := HR.out.below hB
      clear a1 a2 hg hg2
      obtain ⟨pk, hp⟩ : ∃ pk, surgeP G P F k = pk := ⟨_, rfl⟩
      have HP : Hid (surgeP G P F k = pk) := hp
      clear hp
      go_upto_region 6 with fail
      go_cut [34] (fun s wx => s = .bool pk ∧ Below wr.heap.size wr wx)
      case first =>
        go_region_held3 (fun w' => w'.cell? ⟨g2, o2 + k, none⟩ = some (.int .i64 (F k))) (first | (refine keep1s u2 zg2 ?_; exact (by repeat (first | with_reducible exact Below.refl _ _ | with_reducible exact B3 | with_reducible refine Below.setCell ?_ (by first | omega | (simp; done) | (simp; omega)) _ | with_reducible refine bDrewN ?_ _ | with_reducible refine Below.drew ?_ | with_reducible refine Below.alloc ?_ (by first | omega | (simp; done) | (simp; omega)) _)))) (first
          | (go_at_call 14; refine (T.out _ _ (HM.out.below (by repeat (first | with_reducible exact Below.refl _ _ | with_reducible refine Below.setCell ?_ (by first | omega | (simp; done) | (simp; omega)) _ | with_reducible refine bDrewN ?_ _ | with_reducible refine Below.drew ?_ | with_reducible refine Below.alloc ?_ (by first | omega | (simp; done) | (simp; omega)) _)))).mono ?_; rintro e w3 ⟨f, rfl, hf, h3⟩; have B3 : Below wr.heap.size wr w3 := Below.trans (by repeat (first | with_reducible exact Below.refl _ _ | with_reducible refine Below.setCell ?_ (by first | omega | (simp; done) | (simp; omega)) _ | with_reducible refine bDrewN ?_ _ | with_reducible refine Below.drew ?_ | with_reducible refine Below.alloc ?_ (by first | omega | (simp; done) | (simp; omega)) _)) (h3.mono (by first | omega | (simp; done) | (simp; omega))); have s3 := B3.size; have hx : (FloatKind.f64.format.order (itf (F k)) f == some .lt) = pk := (by rw [fl_order (itf_fl _) hf]; exact HP.out); clear h3))
        all_goals
          go_wp2_with fail
          go_meet
          case rel => exact ⟨by first | rfl | (simp [hx]), (by repeat (first | with_reducible exact Below.refl _ _ | with_reducible exact B3 | with_reducible refine Below.setCell ?_ (by first | omega | (simp; done) | (simp; omega)) _ | with_reducible refine bDrewN ?_ _ | with_reducible refine Below.drew ?_ | with_reducible refine Below.alloc ?_ (by first | omega | (simp; done) | (simp; omega)) _))⟩
      case rest =>
        obtain ⟨rfl, hC⟩ := hcut
        have BC : Below w.heap.size w wc := hB.trans (hC.mono hB.size)
        clear u1 u2 hC
        cases pk
        · have on : Hid (firstI (surgeP G P F) 0 n = firstI (surgeP G P F) (k + 1) (n - (k + 1))) := ho.out.trans (firstI_no HN.out HP.out)
          go_wp2
          go_roundw
          case rel => exact ⟨k + 1, by omega, by go_num, (by repeat (first | with_reducible exact Below.refl _ _ | with_reducible exact BC | with_reducible refine Below.setCell ?_ (by first | omega | (simp; done) | (simp; omega)) _ | with_reducible refine bDrewN ?_ _ | with_reducible refine Below.drew ?_ | with_reducible refine Below.alloc ?_ (by first | omega | (simp; done) | (simp; omega)) _)), on⟩
          case measure => simp [intOf]; omega
        · have on : Hid (firstI (surgeP G P F) 0 n = k) := ho.out.trans (firstI_yes HN.out HP.out)
          go_wp2
          exact bodyPost_ret (v := .int .i64 k) (by simp [results, Try.results17, go_sem]) rfl ⟨by rw [on.out], (by repeat (first | with_reducible exact Below.refl _ _ | with_reducible exact BC | with_reducible refine Below.setCell ?_ (by first | omega | (simp; done) | (simp; omega)) _ | with_reducible refine bDrewN ?_ _ | with_reducible refine Below.drew ?_ | with_reducible refine Below.alloc ?_ (by first | omega | (simp; done) | (simp; omega)) _))⟩
    · have e1 : k = n := by omega
      subst e1
      have on : Hid (firstI (surgeP G P F) 0 k = -1) := by show firstI (surgeP G P F) 0 k = -1; rw [ho.out, Nat.sub_self]; rfl
      go_wp2
      go_ret
      exact ⟨by rw [on.out]; rfl, (by repeat (first | with_reducible exact Below.refl _ _ | with_reducible exact hB | with_reducible refine Below.setCell ?_ (by first | omega | (simp; done) | (simp; omega)) _ | with_reducible refine bDrewN ?_ _ | with_reducible refine Below.drew ?_ | with_reducible refine Below.alloc ?_ (by first | omega | (simp; done) | (simp; omega)) _))⟩
end Go.Proofs.Ytbabedfbadlhjaa
