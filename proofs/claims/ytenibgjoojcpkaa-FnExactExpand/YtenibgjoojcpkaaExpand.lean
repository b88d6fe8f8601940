/-
What is proved: the heats behind stages and the work of them, as both packages tell them.
-/
import Derived.Test.YtenibgjoojcpkaaOwnF
import Derived.Test.YtenibgjoojcpkaaStages
import Derived.Deep.RegionHeldLaw
namespace Go.Proofs.Ytenibgjoojcpkaa
set_option maxRecDepth 40000
open Go.RowKit
set_option linter.unusedVariables false
set_option linter.unusedSimpArgs false

/-- The work of a stage, the heat behind k stages, their work together. -/
def workO (V : Nat → Option Nat) (k : Nat) : Option Nat := opO .mul (V (k * 2)) (V (k * 2 + 1))
def behindO (H : Option Nat) (V : Nat → Option Nat) : Nat → Option Nat
  | 0 => H
  | k + 1 => opO .sub (behindO H V k) (workO V k)
def sumO (V : Nat → Option Nat) : Nat → Option Nat
  | 0 => some 0
  | k + 1 => opO .add (sumO V k) (workO V k)
def heatO (H : Option Nat) (V : Nat → Option Nat) (j : Nat) : Option Nat := behindO H V (j + 1)
def ExpV (n m : Nat) : Prop := (n ≤ 100 ∧ m = n) ∨ (100 < n ∧ m = 0)
def expR (V : Nat → Option Nat) (n : Nat) : Option Nat := if n ≤ 100 then sumO V n else some 0

set_option maxHeartbeats 1000000 in
theorem specExpand_far (x0 : Nat) (H : Option Nat) (hH : Fl x0 H) (s : Option Addr) (n c : Nat) (V : Nat → Option Nat) (w : World) (HR : Hid (RowF w s (n * 2) V)) (hn : (100 : Int) < n) (hn' : (n : Int) ≤ 1048576) :
    Calls Try.prog 18 #[.float .f64 x0, .slice s n c] w fun e w' => ∃ m s' c' r, ExpV n m ∧ e = .returned (.tuple #[.slice s' m c', .float .f64 r]) ∧ Fl r (expR V n) ∧ OwnF w.heap.size w' s' m (heatO H V) ∧ Below w.heap.size w w' := by
  go_enter Try.func18, Try.ntmps18
  go_wp2
  exact bodyPost_ret (v := .tuple #[.slice (some ⟨w.heap.size, 0, none⟩) 0 0, .float .f64 0]) (by simp [results, Try.results18, go_sem]) rfl ⟨0, _, _, 0, .inr ⟨by omega, rfl⟩, rfl, by unfold expR; rw [if_neg (by omega)]; exact fl_zero, fun j hj => by omega, (by repeat (first | with_reducible exact Below.refl _ _ | with_reducible refine Below.setCell ?_ (by first | omega | (simp; done) | (simp; omega)) _ | with_reducible refine bDrewN ?_ _ | with_reducible refine Below.drew ?_ | with_reducible refine Below.alloc ?_ (by first | omega | (simp; done) | (simp; omega)) _))⟩

set_option maxRecDepth 20000 in
set_option maxHeartbeats 4000000 in
theorem specExpand_in (x0 : Nat) (H : Option Nat) (hH : Fl x0 H) (s : Option Addr) (n c : Nat) (V : Nat → Option Nat) (w : World) (HR : Hid (RowF w s (n * 2) V)) (hn : (n : Int) ≤ 100) :
    Calls Try.prog 18 #[.float .f64 x0, .slice s n c] w fun e w' => ∃ m s' c' r, ExpV n m ∧ e = .returned (.tuple #[.slice s' m c', .float .f64 r]) ∧ Fl r (expR V n) ∧ OwnF w.heap.size w' s' m (heatO H V) ∧ Below w.heap.size w w' := by
  go_enter Try.func18, Try.ntmps18
  go_wp2_with fail
  go_loopw [0, 6, 7, 8] (fun h v q i wr => ∃ (k : Nat) (x y : Nat) (xs : List Value), k ≤ n ∧ i = .int .i64 k ∧ h = .float .f64 x ∧ q = .float .f64 y ∧ Fl x (behindO H V k) ∧ Fl y (sumO V k) ∧ MadeF w.heap.size w wr v k xs (heatO H V)) (fun _ _ _ i _ => n - (intOf i).toNat)
  case atStart => exact ⟨0, x0, 0, [], Nat.zero_le _, rfl, rfl, rfl, hH, fl_zero, madeF_lit w _ (Nat.le_refl _)⟩
  case round =>
    obtain ⟨k, x, y, xs, hk, rfl, rfl, rfl, hx, hy, hM⟩ := hrel
    have HM : Hid (MadeF w.heap.size w wr u6 k xs (heatO H V)) := hM
    obtain ⟨hown, -, hB⟩ := hM
    have HO : Hid (wr.ownsRow w.heap.size 34 1 u6 k xs) := hown
    have zB := hB.size
    by_cases hlt : k < n
    · obtain ⟨g, o, p, rfl, hg, c0, hp⟩ := HR.out (k * 2) (by omega)
      obtain ⟨g', o', q, e', hg', c1, hq⟩ := HR.out (k * 2 + 1) (by omega)
      cases e'
      have d0 : wr.cell? ⟨g, o + k * 2, none⟩ = some (.float .f64 p) := (hB.cell (p := ⟨g, o + k * 2, none⟩) hg).trans c0
      have d1 : wr.cell? ⟨g, o + k * 2 + 1, none⟩ = some (.float .f64 q) := (hB.cell (p := ⟨g, o + (k * 2 + 1), none⟩) hg).trans c1
      have k1 : (k : Int) < (n : Int) := by omega
      have HP : Hid (Fl p (V (k * 2)) ∧ Fl q (V (k * 2 + 1))) := ⟨hp, hq⟩
      have HX : Hid (Fl x (behindO H V k) ∧ Fl y (sumO V k)) := ⟨hx, hy⟩
      obtain ⟨r, n1, hrun, hr⟩ := fl_run (P := Try.prog) (f := .mul) rfl 34 hp hq wr.drew
      clear hown hB c0 c1 hg' hp hq hx hy
      have HW : Hid (Fl r (workO V k)) := hr
      clear hr
      go_wp2_with fail
      go_region_held_law (fun w' => w'.cell? ⟨g, o + k * 2, none⟩ = some (.float .f64 p) ∧ w'.cell? ⟨g, o + k * 2 + 1, none⟩ = some (.float .f64 q)) (first | (simp [go_sem, d0, d1]; done) | go_keep) (fail)
      all_goals
        go_wp2_with (first
          | (refine list_fop .sub rfl 34 34 (.tmp 32) (.tmp 33) (by rfl) (by rfl) (by rfl) (by rfl) HX.out.1 HW.out ?_; intro x' n2 hx')
          | (refine list_fop .add rfl 34 34 (.tmp 35) (.tmp 36) (by rfl) (by rfl) (by rfl) (by rfl) HX.out.2 HW.out ?_; intro y' n3 hy')
          | (at_builtin; refine list_f64 w.heap.size u6 k xs (.tmp 38) (.tmp 40) (by rfl) (by rfl) (by rfl) (by rfl) (by exact HO.out) (by omega) (by simp; omega) ?_; intro g' cap' w3 hown3 hgrow3 hlt3))
        go_roundw
        case rel => exact ⟨k + 1, x', y', _, by omega, by go_num, rfl, rfl, hx', hy', madeF_on HM.out (by repeat (first | with_reducible exact Below.refl _ _ | with_reducible refine Below.setCell ?_ (by first | omega | (simp; done) | (simp; omega)) _ | with_reducible refine bDrewN ?_ _ | with_reducible refine Below.drew ?_ | with_reducible refine Below.alloc ?_ (by first | omega | (simp; done) | (simp; omega)) _)) zB hx' hown3 hgrow3⟩
        case measure => simp [intOf]; omega
    · obtain rfl : k = n := by omega
      obtain ⟨s', cap, rfl, ho⟩ := madeF_own HM.out
      have HE : Hid (Fl y (expR V k)) := by show Fl _ _; unfold expR; rw [if_pos (by omega)]; exact hy
      clear hown hx hy
      go_wp2
      exact bodyPost_ret (v := .tuple #[.slice s' k cap, .float .f64 y]) (by simp [results, Try.results18, go_sem]) rfl ⟨k, _, _, y, .inl ⟨by omega, rfl⟩, rfl, HE.out, ho, (by repeat (first | with_reducible exact Below.refl _ _ | with_reducible exact hB | with_reducible refine Below.setCell ?_ (by first | omega | (simp; done) | (simp; omega)) _ | with_reducible refine bDrewN ?_ _ | with_reducible refine Below.drew ?_ | with_reducible refine Below.alloc ?_ (by first | omega | (simp; done) | (simp; omega)) _))⟩

theorem list_st {w : World} {a : Addr} {u : Value} (x : Nat) (h : w.cell? a = some u) (hf : w.frozen? a = false) : (store a (.float .f64 x)).run Try.prog w = .ok () (w.setCell a (.float .f64 x)) := store_f64 x h hf
theorem make_f64 (n : Nat) (hn : n ≤ 1048576) (w : World) : (Instr.makeSlice 37 (.int .i64 (n : Int)) (.int .i64 (n : Int))).run Try.prog w = .ok (.slice (some ⟨w.heap.size, 0, none⟩) n n) (w.alloc (.cells (madeCells #[.float .f64 0] n) 34)) := by
  have hinfo := info_f64
  obtain ⟨i, hi, hzz⟩ := Option.map_eq_some_iff.1 hinfo
  simp only [Prod.mk.injEq] at hzz
  obtain ⟨hz, hs, hb⟩ := hzz
  have hr := run_make (P := Try.prog) w 37 34 i _ Try.underlying37 hi hz .i64 .i64 n n (by omega) (Int.le_refl _) (by rw [hb]; omega) (by omega)
  simp only [Int.toNat_natCast, hs, Nat.mul_one] at hr
  exact hr
theorem made_one (n : Nat) : ∀ j, j < n → (madeCells #[.float .f64 0] n)[j]? = some (.float .f64 0) := fun j hj => by
  simp only [madeCells, Array.getElem?_map, Array.getElem?_range, hj, if_true, Option.map_some]
  show some ((#[Value.float .f64 0] : Array Value)[j % 1]!) = _
  rw [Nat.mod_one]; rfl

set_option maxRecDepth 20000 in
set_option maxHeartbeats 2000000 in
theorem worksOf_any (s : Option Addr) (n c : Nat) (V : Nat → Option Nat) (w : World) (hn : (n : Int) ≤ 100) (HR : Hid (RowF w s (n * 2) V)) :
    Calls Try.prog 54 #[.slice s n c] w fun e w' => e = .returned (.slice (some ⟨w.heap.size, 0, none⟩) n n) ∧ OwnF w.heap.size w' (some ⟨w.heap.size, 0, none⟩) n (workO V) ∧ Below w.heap.size w w' := by
  have hmk := make_f64 n (by omega)
  have st := store_flt
  go_enter Try.func54, Try.ntmps54
  go_wp2_with fail
  go_loopw [11] (fun i wr => ∃ k : Nat, k ≤ n ∧ i = .int .i64 k ∧ RowFTo w wr n k (workO V)) (fun i _ => n - (intOf i).toNat)
  case atStart => exact ⟨0, Nat.zero_le _, rfl, rowFTo_start (made_one n)⟩
  case round =>
    obtain ⟨k, hk, rfl, hR⟩ := hrel
    have HT : Hid (RowFTo w wr n k (workO V)) := hR
    obtain ⟨hB, hz, hf, hc⟩ := hR
    by_cases hlt : k < n
    · obtain ⟨g, o, p, rfl, hg, c0, hp⟩ := HR.out (k * 2) (by omega)
      obtain ⟨g', o', q, e', hg', c1, hq⟩ := HR.out (k * 2 + 1) (by omega)
      cases e'
      have d0 : wr.cell? ⟨g, o + k * 2, none⟩ = some (.float .f64 p) := (hB.cell (p := ⟨g, o + k * 2, none⟩) hg).trans c0
      have d1 : wr.cell? ⟨g, o + k * 2 + 1, none⟩ = some (.float .f64 q) := (hB.cell (p := ⟨g, o + (k * 2 + 1), none⟩) hg).trans c1
      obtain ⟨z, e0, -⟩ := hc k hlt
      have f0 := hf k
      have k1 : (k : Int) < (n : Int) := by omega
      have HP : Hid (Fl p (V (k * 2)) ∧ Fl q (V (k * 2 + 1))) := ⟨hp, hq⟩
      have zg : g < wr.heap.size := Nat.lt_of_lt_of_le hg hB.size
      clear hc hB c0 c1 hg hg' hp hq hf
      go_wp2_with (first
        | (refine list_fop .mul rfl 34 34 (.tmp 19) (.tmp 21) (by rfl) (by rfl) (by rfl) (by rfl) HP.out.1 HP.out.2 ?_; intro r n1 hr))
      go_roundw
      case rel => exact ⟨k + 1, by omega, by go_num, rowFTo_set (rowFTo_keep HT.out (by repeat (first | with_reducible exact Below.refl _ _ | with_reducible refine Below.setCell ?_ (by first | omega | (simp; done) | (simp; omega)) _ | with_reducible refine bDrewN ?_ _ | with_reducible refine Below.drew ?_ | with_reducible refine Below.alloc ?_ (by first | omega | (simp; done) | (simp; omega)) _))) hr⟩
      case measure => simp [intOf]; omega
    · obtain rfl : k = n := by omega
      go_wp2
      go_ret
      exact ⟨rfl, rowFTo_own HT.out, hB⟩

set_option maxRecDepth 20000 in
set_option maxHeartbeats 2000000 in
theorem heatsBehind_any (x0 : Nat) (H : Option Nat) (hH : Fl x0 H) (s : Option Addr) (n c : Nat) (V : Nat → Option Nat) (w : World) (hn : (n : Int) ≤ 100) (HR : Hid (RowF w s n (workO V))) :
    Calls Try.prog 55 #[.float .f64 x0, .slice s n c] w fun e w' => e = .returned (.slice (some ⟨w.heap.size, 0, none⟩) n n) ∧ OwnF w.heap.size w' (some ⟨w.heap.size, 0, none⟩) n (heatO H V) ∧ Below w.heap.size w w' := by
  have hmk := make_f64 n (by omega)
  have st := store_flt
  go_enter Try.func55, Try.ntmps55
  go_wp2_with fail
  go_loopw [0, 13] (fun h i wr => ∃ (k : Nat) (x : Nat), k ≤ n ∧ i = .int .i64 k ∧ h = .float .f64 x ∧ Fl x (behindO H V k) ∧ RowFTo w wr n k (heatO H V)) (fun _ i _ => n - (intOf i).toNat)
  case atStart => exact ⟨0, x0, Nat.zero_le _, rfl, rfl, hH, rowFTo_start (made_one n)⟩
  case round =>
    obtain ⟨k, x, hk, rfl, rfl, hx, hR⟩ := hrel
    have HT : Hid (RowFTo w wr n k (heatO H V)) := hR
    obtain ⟨hB, hz, hf, hc⟩ := hR
    by_cases hlt : k < n
    · obtain ⟨g, o, p, rfl, hg, c0, hp⟩ := HR.out k hlt
      have d0 : wr.cell? ⟨g, o + k, none⟩ = some (.float .f64 p) := (hB.cell (p := ⟨g, o + k, none⟩) hg).trans c0
      obtain ⟨z, e0, -⟩ := hc k hlt
      have f0 := hf k
      have k1 : (k : Int) < (n : Int) := by omega
      have HP : Hid (Fl p (workO V k) ∧ Fl x (behindO H V k)) := ⟨hp, hx⟩
      clear hc hB c0 hg hp hx hf
      go_wp2_with (first
        | (refine list_fop .sub rfl 34 34 (.tmp 18) (.tmp 19) (by rfl) (by rfl) (by rfl) (by rfl) HP.out.2 HP.out.1 ?_; intro r n1 hr))
      go_roundw
      case rel => exact ⟨k + 1, r, by omega, by go_num, rfl, hr, rowFTo_set (x := r) (rowFTo_keep HT.out (by repeat (first | with_reducible exact Below.refl _ _ | with_reducible refine Below.setCell ?_ (by first | omega | (simp; done) | (simp; omega)) _ | with_reducible refine bDrewN ?_ _ | with_reducible refine Below.drew ?_ | with_reducible refine Below.alloc ?_ (by first | omega | (simp; done) | (simp; omega)) _))) hr⟩
      case measure => simp [intOf]; omega
    · obtain rfl : k = n := by omega
      go_wp2
      go_ret
      exact ⟨rfl, rowFTo_own HT.out, hB⟩

set_option maxRecDepth 20000 in
set_option maxHeartbeats 2000000 in
theorem sumOf_any (s : Option Addr) (n c : Nat) (V : Nat → Option Nat) (w : World) (hn : (n : Int) ≤ 100) (HR : Hid (RowF w s n (workO V))) :
    Calls Try.prog 56 #[.slice s n c] w fun e w' => ∃ r, e = .returned (.float .f64 r) ∧ Fl r (sumO V n) ∧ Below w.heap.size w w' := by
  go_enter Try.func56, Try.ntmps56
  go_wp2_with fail
  go_loopw [3, 8] (fun h i wr => ∃ (k : Nat) (x : Nat), k ≤ n ∧ i = .int .i64 k ∧ h = .float .f64 x ∧ Fl x (sumO V k) ∧ Below w.heap.size w wr) (fun _ i _ => n - (intOf i).toNat)
  case atStart => exact ⟨0, 0, Nat.zero_le _, rfl, rfl, fl_zero, Below.refl _ _⟩
  case round =>
    obtain ⟨k, x, hk, rfl, rfl, hx, hB⟩ := hrel
    by_cases hlt : k < n
    · obtain ⟨g, o, p, rfl, hg, c0, hp⟩ := HR.out k hlt
      have d0 : wr.cell? ⟨g, o + k, none⟩ = some (.float .f64 p) := (hB.cell (p := ⟨g, o + k, none⟩) hg).trans c0
      have k1 : (k : Int) < (n : Int) := by omega
      have HP : Hid (Fl p (workO V k) ∧ Fl x (sumO V k)) := ⟨hp, hx⟩
      have HB : Hid (Below w.heap.size w wr) := hB
      clear hB c0 hg hp hx
      go_wp2_with (first
        | (refine list_fop .add rfl 34 34 (.tmp 12) (.tmp 13) (by rfl) (by rfl) (by rfl) (by rfl) HP.out.2 HP.out.1 ?_; intro r n1 hr))
      go_roundw
      case rel => exact ⟨k + 1, r, by omega, by go_num, rfl, hr, bDrewN HB.out _⟩
      case measure => simp [intOf]; omega
    · obtain rfl : k = n := by omega
      go_wp2
      go_ret
      exact ⟨x, rfl, hx, hB⟩

set_option maxHeartbeats 1000000 in
theorem implExpand_far (x0 : Nat) (H : Option Nat) (hH : Fl x0 H) (s : Option Addr) (n c : Nat) (V : Nat → Option Nat) (w : World) (HR : Hid (RowF w s (n * 2) V)) (hn : (100 : Int) < n) (hn' : (n : Int) ≤ 1048576) :
    Calls Try.prog 20 #[.float .f64 x0, .slice s n c] w fun e w' => ∃ m s' c' r, ExpV n m ∧ e = .returned (.tuple #[.slice s' m c', .float .f64 r]) ∧ Fl r (expR V n) ∧ OwnF w.heap.size w' s' m (heatO H V) ∧ Below w.heap.size w w' := by
  go_enter Try.func20, Try.ntmps20
  go_wp2
  exact bodyPost_ret (v := .tuple #[.slice none 0 0, .float .f64 0]) (by simp [results, Try.results20, go_sem]) rfl ⟨0, _, _, 0, .inr ⟨by omega, rfl⟩, rfl, by unfold expR; rw [if_neg (by omega)]; exact fl_zero, fun j hj => by omega, (by repeat (first | with_reducible exact Below.refl _ _ | with_reducible refine Below.setCell ?_ (by first | omega | (simp; done) | (simp; omega)) _ | with_reducible refine bDrewN ?_ _ | with_reducible refine Below.drew ?_ | with_reducible refine Below.alloc ?_ (by first | omega | (simp; done) | (simp; omega)) _))⟩
set_option maxHeartbeats 1000000 in
theorem implExpand_in (x0 : Nat) (H : Option Nat) (hH : Fl x0 H) (s : Option Addr) (n c : Nat) (V : Nat → Option Nat) (w : World) (HR : Hid (RowF w s (n * 2) V)) (hn : (n : Int) ≤ 100) :
    Calls Try.prog 20 #[.float .f64 x0, .slice s n c] w fun e w' => ∃ m s' c' r, ExpV n m ∧ e = .returned (.tuple #[.slice s' m c', .float .f64 r]) ∧ Fl r (expR V n) ∧ OwnF w.heap.size w' s' m (heatO H V) ∧ Below w.heap.size w w' := by
  go_enter Try.func20, Try.ntmps20
  go_wp2_with fail
  refine (worksOf_any s n c V _ hn HR).mono ?_
  rintro e w1 ⟨rfl, O1, h1⟩
  have HR1 : Hid (RowF w1 (some ⟨w.heap.size, 0, none⟩) n (workO V)) := O1.row
  clear O1
  go_wp2_with fail
  refine (heatsBehind_any x0 H hH _ n _ V _ hn HR1.out).mono ?_
  rintro e w2 ⟨rfl, O2, h2⟩
  have HR2 : Hid (RowF w2 (some ⟨w.heap.size, 0, none⟩) n (workO V)) := HR1.out.below h2
  have B2 : Below w.heap.size w w2 := h1.trans (h2.mono h1.size)
  go_wp2_with fail
  refine (sumOf_any _ n _ V _ hn HR2.out).mono ?_
  rintro e w3 ⟨r, rfl, hr, h3⟩
  have HE : Hid (Fl r (expR V n)) := by show Fl _ _; unfold expR; rw [if_pos (by omega)]; exact hr
  have O3 : Hid (OwnF w.heap.size w3 (some ⟨w1.heap.size, 0, none⟩) n (heatO H V)) := (O2.mono h1.size).below h3
  have B3 : Below w.heap.size w w3 := B2.trans (h3.mono B2.size)
  clear hr h3 O2 h1 h2 B2
  go_wp2
  exact bodyPost_ret (v := .tuple #[.slice (some ⟨w1.heap.size, 0, none⟩) n n, .float .f64 r]) (by simp [results, Try.results20, go_sem]) rfl ⟨n, _, _, r, .inl ⟨by omega, rfl⟩, rfl, HE.out, O3.out, B3⟩
end Go.Proofs.Ytenibgjoojcpkaa
