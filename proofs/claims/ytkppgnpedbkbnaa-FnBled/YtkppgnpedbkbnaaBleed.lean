/-
What is proved: what both packages bleed of a flow.
-/
import Derived.Test.YtkppgnpedbkbnaaOwnV
import Derived.Test.YtkppgnpedbkbnaaI64
import Derived.Test.YtkppgnpedbkbnaaAllIn
namespace Go.Proofs.Ytkppgnpedbkbnaa
set_option maxRecDepth 40000
open Go.RowKit
set_option linter.unusedVariables false

/-- The flow behind k places, and what is taken at a place. -/
def flo (F : Int) (V : Nat → Int) : Nat → Int
  | 0 => F
  | k + 1 => flo F V k - flo F V k * V k / 1000
def tak (F : Int) (V : Nat → Int) (k : Nat) : Int := flo F V k * V k / 1000
def partOk (V : Nat → Int) (n : Nat) : Prop := ∀ j, j < n → 0 ≤ V j ∧ V j ≤ 1000
theorem partOk_succ {V : Nat → Int} {k : Nat} (h : partOk V k) (h1 : 0 ≤ V k ∧ V k ≤ 1000) : partOk V (k + 1) := fun j hj => by
  by_cases e : j = k
  · rw [e]; exact h1
  · exact h j (by omega)
theorem bl_prod {x v : Int} (h0 : 0 ≤ x) (h1 : x ≤ 1000000000) (v0 : 0 ≤ v) (v1 : v ≤ 1000) : 0 ≤ x * v ∧ x * v ≤ 1000000000000 ∧ x * v / 1000 ≤ x ∧ 0 ≤ x * v / 1000 := by
  have a := Int.mul_nonneg h0 v0
  have b := Int.mul_le_mul_of_nonneg_left v1 h0
  omega
theorem flo_bd {F : Int} {V : Nat → Int} (h0 : 0 ≤ F) (h1 : F ≤ 1000000000) : ∀ k, partOk V k → 0 ≤ flo F V k ∧ flo F V k ≤ 1000000000
  | 0, _ => ⟨h0, h1⟩
  | k + 1, h => by
    have ih := flo_bd h0 h1 k (fun j hj => h j (by omega))
    have hv := h k (by omega)
    have := bl_prod ih.1 ih.2 hv.1 hv.2
    show 0 ≤ flo F V k - flo F V k * V k / 1000 ∧ flo F V k - flo F V k * V k / 1000 ≤ 1000000000
    omega
def BleedV (F : Int) (n : Nat) (V : Nat → Int) (m : Nat) (r : Int) : Prop := (m = n ∧ r = flo F V n ∧ 0 ≤ F ∧ F ≤ 1000000000 ∧ n ≤ 100 ∧ partOk V n) ∨ (m = 0 ∧ r = -1 ∧ ¬ (0 ≤ F ∧ F ≤ 1000000000 ∧ n ≤ 100 ∧ partOk V n))

set_option maxRecDepth 20000 in
set_option maxHeartbeats 2000000 in
theorem specBleed_in (F : Int) (s : Option Addr) (n c : Nat) (V : Nat → Int) (w : World) (h0 : 0 ≤ F) (h1 : F ≤ 1000000000) (hn : (n : Int) ≤ 100) (HR : Hid (RowI w s n V)) :
    Calls Try.prog 15 #[.int .i64 F, .slice s n c] w fun e w' => ∃ m r s' c', BleedV F n V m r ∧ e = .returned (.tuple #[.slice s' m c', .int .i64 r]) ∧ OwnI w.heap.size w' s' m (tak F V) ∧ Below w.heap.size w w' := by
  go_enter Try.func15, Try.ntmps15
  go_wp2_with fail
  refine (l1In_yes _ _ _ _ h0 h1).mono ?_
  rintro e w1 ⟨rfl, rfl⟩
  go_wp2_with fail
  go_loopw [0, 6, 7] (fun f v i wr => ∃ k : Nat, k ≤ n ∧ i = .int .i64 k ∧ f = .int .i64 (flo F V k) ∧ partOk V k ∧ MadeI w.heap.size w wr v k (tak F V)) (fun _ _ i _ => n - (intOf i).toNat)
  case atStart => exact ⟨0, Nat.zero_le _, rfl, rfl, fun j hj => by omega, made_lit w _ (Nat.le_refl _)⟩
  case round =>
    obtain ⟨k, hk, rfl, rfl, hP, hM⟩ := hrel
    have HM : Hid (MadeI w.heap.size w wr u6 k (tak F V)) := hM
    have HP : Hid (partOk V k) := hP
    obtain ⟨f0, f1⟩ := flo_bd h0 h1 k hP
    obtain ⟨hown, hB⟩ := hM
    by_cases hlt : k < n
    · obtain ⟨g, o, rfl, hg, c0⟩ := HR.out k hlt
      have d0 : wr.cell? ⟨g, o + k, none⟩ = some (.int .i64 (V k)) := (hB.cell (p := ⟨g, o + k, none⟩) hg).trans c0
      have k1 : (k : Int) < (n : Int) := by omega
      have ET : Hid (tak F V k = flo F V k * V k / 1000) := rfl
      have EF : Hid (flo F V (k + 1) = flo F V k - flo F V k * V k / 1000) := rfl
      obtain ⟨x, hx⟩ : ∃ x, x = flo F V k := ⟨_, rfl⟩
      obtain ⟨y, hy⟩ : ∃ y, y = V k := ⟨_, rfl⟩
      have HX : Hid (x = flo F V k ∧ y = V k) := ⟨hx, hy⟩
      rw [← hx, ← hy] at ET EF
      rw [← hy] at d0
      rw [← hx] at f0 f1
      have HO : Hid (wr.ownsRow w.heap.size 2 1 u6 k (vals (tak F V) k)) := hown
      have zB := hB.size
      have HB : Hid (Below w.heap.size w wr) := hB
      by_cases hy2 : 0 ≤ y ∧ y ≤ 1000
      · obtain ⟨y0, y1⟩ := hy2
        obtain ⟨p0, p1, p2, p3⟩ := bl_prod f0 f1 y0 y1
        rw [← hx]
        clear hx hy hown hP c0 hB
        go_wp2_with fail
        refine (l1In_yes _ _ _ _ y0 y1).mono ?_
        rintro e w2 ⟨rfl, rfl⟩
        go_wp2_with (at_builtin; refine list_i64 w.heap.size u6 k (vals (tak F V) k) (.tmp 42) (.tmp 44) (by rfl) (by rfl) (by rfl) (by rfl) HO.out (by omega) (by omega) ?_; intro g' cap' w3 hown3 hgrow3 hlt3)
        go_roundw
        case rel => exact ⟨k + 1, by omega, by go_num, by rw [EF.out], partOk_succ HP.out (by rw [← HX.out.2]; exact ⟨y0, y1⟩), made_on HM.out (Below.refl _ _) zB (by rw [ET.out]; exact hown3) hgrow3⟩
        case measure => simp [intOf]; omega
      · clear hx hown hP c0
        go_wp2_with fail
        refine (l1In_no _ _ _ _ (by omega)).mono ?_
        rintro e w2 ⟨rfl, rfl⟩
        go_wp2
        have B2 := HB.out
        refine bodyPost_ret (v := .tuple #[.slice (some ⟨w2.heap.size, 0, none⟩) 0 0, .int .i64 (-1)]) (by simp [results, Try.results15, go_sem]) rfl ⟨0, -1, _, _, .inr ⟨rfl, rfl, fun q => hy2 (hy ▸ q.2.2.2 k hlt)⟩, rfl, fun j hj => by omega, (by repeat (first | with_reducible exact Below.refl _ _ | with_reducible exact B2 | with_reducible refine Below.setCell ?_ (by first | omega | (simp; done) | (simp; omega)) _ | with_reducible refine bDrewN ?_ _ | with_reducible refine Below.drew ?_ | with_reducible refine Below.alloc ?_ (by first | omega | (simp; done) | (simp; omega)) _))⟩
    · obtain rfl : k = n := by omega
      obtain ⟨s', cap, rfl, ho⟩ := made_own HM.out
      have B2 := hB
      clear hown hB
      go_wp2
      refine bodyPost_ret (v := .tuple #[.slice s' k cap, .int .i64 (flo F V k)]) (by simp [results, Try.results15, go_sem]) rfl ⟨k, _, _, _, .inl ⟨rfl, rfl, h0, h1, by omega, HP.out⟩, rfl, ho, (by repeat (first | with_reducible exact Below.refl _ _ | with_reducible exact B2 | with_reducible refine Below.setCell ?_ (by first | omega | (simp; done) | (simp; omega)) _ | with_reducible refine bDrewN ?_ _ | with_reducible refine Below.drew ?_ | with_reducible refine Below.alloc ?_ (by first | omega | (simp; done) | (simp; omega)) _))⟩

set_option maxHeartbeats 1000000 in
theorem specBleed_no (F : Int) (s : Option Addr) (n c : Nat) (V : Nat → Int) (w : World) (h : ¬ (0 ≤ F ∧ F ≤ 1000000000 ∧ n ≤ 100)) (hn : (n : Int) ≤ 1048576) :
    Calls Try.prog 15 #[.int .i64 F, .slice s n c] w fun e w' => ∃ m r s' c', BleedV F n V m r ∧ e = .returned (.tuple #[.slice s' m c', .int .i64 r]) ∧ OwnI w.heap.size w' s' m (tak F V) ∧ Below w.heap.size w w' := by
  by_cases q : 0 ≤ F ∧ F ≤ 1000000000
  · have hn2 : (100 : Int) < n := by omega
    go_enter Try.func15, Try.ntmps15
    go_wp2_with fail
    refine (l1In_yes _ _ _ _ q.1 q.2).mono ?_
    rintro e w1 ⟨rfl, rfl⟩
    go_wp2
    exact bodyPost_ret (v := .tuple #[.slice (some ⟨w.heap.size, 0, none⟩) 0 0, .int .i64 (-1)]) (by simp [results, Try.results15, go_sem]) rfl ⟨0, -1, _, _, .inr ⟨rfl, rfl, fun q => h ⟨q.1, q.2.1, q.2.2.1⟩⟩, rfl, fun j hj => by omega, (by repeat (first | with_reducible exact Below.refl _ _ | with_reducible refine Below.setCell ?_ (by first | omega | (simp; done) | (simp; omega)) _ | with_reducible refine bDrewN ?_ _ | with_reducible refine Below.drew ?_ | with_reducible refine Below.alloc ?_ (by first | omega | (simp; done) | (simp; omega)) _))⟩
  · go_enter Try.func15, Try.ntmps15
    go_wp2_with fail
    refine (l1In_no _ _ _ _ (by omega)).mono ?_
    rintro e w1 ⟨rfl, rfl⟩
    go_wp2
    exact bodyPost_ret (v := .tuple #[.slice (some ⟨w.heap.size, 0, none⟩) 0 0, .int .i64 (-1)]) (by simp [results, Try.results15, go_sem]) rfl ⟨0, -1, _, _, .inr ⟨rfl, rfl, fun q => h ⟨q.1, q.2.1, q.2.2.1⟩⟩, rfl, fun j hj => by omega, (by repeat (first | with_reducible exact Below.refl _ _ | with_reducible refine Below.setCell ?_ (by first | omega | (simp; done) | (simp; omega)) _ | with_reducible refine bDrewN ?_ _ | with_reducible refine Below.drew ?_ | with_reducible refine Below.alloc ?_ (by first | omega | (simp; done) | (simp; omega)) _))⟩
theorem specBleed_any (F : Int) (s : Option Addr) (n c : Nat) (V : Nat → Int) (w : World) (hn : (n : Int) ≤ 1048576) (HR : Hid (RowI w s n V)) :
    Calls Try.prog 15 #[.int .i64 F, .slice s n c] w fun e w' => ∃ m r s' c', BleedV F n V m r ∧ e = .returned (.tuple #[.slice s' m c', .int .i64 r]) ∧ OwnI w.heap.size w' s' m (tak F V) ∧ Below w.heap.size w w' := by
  by_cases h : 0 ≤ F ∧ F ≤ 1000000000 ∧ n ≤ 100
  · exact specBleed_in F s n c V w h.1 h.2.1 (by omega) HR
  · exact specBleed_no F s n c V w h hn

set_option maxHeartbeats 1000000 in
theorem implBleed_no (F : Int) (s : Option Addr) (n c : Nat) (V : Nat → Int) (w : World) (h : ¬ (0 ≤ F ∧ F ≤ 1000000000 ∧ n ≤ 100)) (hn : (n : Int) ≤ 1048576) :
    Calls Try.prog 16 #[.int .i64 F, .slice s n c] w fun e w' => ∃ m r s' c', BleedV F n V m r ∧ e = .returned (.tuple #[.slice s' m c', .int .i64 r]) ∧ OwnI w.heap.size w' s' m (tak F V) ∧ Below w.heap.size w w' := by
  by_cases q : 0 ≤ F ∧ F ≤ 1000000000
  · have hn2 : (100 : Int) < n := by omega
    go_enter Try.func16, Try.ntmps16
    go_wp2_with fail
    refine (within_yes _ _ _ _ q.1 q.2).mono ?_
    rintro e w1 ⟨rfl, rfl⟩
    go_wp2
    exact bodyPost_ret (v := .tuple #[.slice none 0 0, .int .i64 (-1)]) (by simp [results, Try.results16, go_sem]) rfl ⟨0, -1, _, _, .inr ⟨rfl, rfl, fun q => h ⟨q.1, q.2.1, q.2.2.1⟩⟩, rfl, fun j hj => by omega, (by repeat (first | with_reducible exact Below.refl _ _ | with_reducible refine Below.setCell ?_ (by first | omega | (simp; done) | (simp; omega)) _ | with_reducible refine bDrewN ?_ _ | with_reducible refine Below.drew ?_ | with_reducible refine Below.alloc ?_ (by first | omega | (simp; done) | (simp; omega)) _))⟩
  · go_enter Try.func16, Try.ntmps16
    go_wp2_with fail
    refine (within_no _ _ _ _ (by omega)).mono ?_
    rintro e w1 ⟨rfl, rfl⟩
    go_wp2
    exact bodyPost_ret (v := .tuple #[.slice none 0 0, .int .i64 (-1)]) (by simp [results, Try.results16, go_sem]) rfl ⟨0, -1, _, _, .inr ⟨rfl, rfl, fun q => h ⟨q.1, q.2.1, q.2.2.1⟩⟩, rfl, fun j hj => by omega, (by repeat (first | with_reducible exact Below.refl _ _ | with_reducible refine Below.setCell ?_ (by first | omega | (simp; done) | (simp; omega)) _ | with_reducible refine bDrewN ?_ _ | with_reducible refine Below.drew ?_ | with_reducible refine Below.alloc ?_ (by first | omega | (simp; done) | (simp; omega)) _))⟩

set_option maxRecDepth 20000 in
set_option maxHeartbeats 2000000 in
theorem implBleed_in (F : Int) (s : Option Addr) (n c : Nat) (V : Nat → Int) (w : World) (h0 : 0 ≤ F) (h1 : F ≤ 1000000000) (hn : (n : Int) ≤ 100) (HR : Hid (RowI w s n V)) :
    Calls Try.prog 16 #[.int .i64 F, .slice s n c] w fun e w' => ∃ m r s' c', BleedV F n V m r ∧ e = .returned (.tuple #[.slice s' m c', .int .i64 r]) ∧ OwnI w.heap.size w' s' m (tak F V) ∧ Below w.heap.size w w' := by
  have hmk := make_i64 n (by omega)
  go_enter Try.func16, Try.ntmps16
  go_wp2_with fail
  refine (within_yes _ _ _ _ h0 h1).mono ?_
  rintro e w ⟨rfl, rfl⟩
  go_wp2_with fail
  refine (allWithin_any s n c V _ _ _ (by omega) HR).mono ?_
  rintro e w ⟨rfl, rfl⟩
  obtain ⟨b, hb⟩ : ∃ b, b = allInB 0 1000 V n := ⟨_, rfl⟩
  rw [← hb]
  have HPB : Hid (b = allInB 0 1000 V n) := hb
  clear hb
  cases b
  · have hb' : Hid (¬ partOk V n) := allIn_no HPB.out
    go_wp2
    exact bodyPost_ret (v := .tuple #[.slice none 0 0, .int .i64 (-1)]) (by simp [results, Try.results16, go_sem]) rfl ⟨0, -1, _, _, .inr ⟨rfl, rfl, fun q => hb'.out q.2.2.2⟩, rfl, fun j hj => by omega, (by repeat (first | with_reducible exact Below.refl _ _ | with_reducible refine Below.setCell ?_ (by first | omega | (simp; done) | (simp; omega)) _ | with_reducible refine bDrewN ?_ _ | with_reducible refine Below.drew ?_ | with_reducible refine Below.alloc ?_ (by first | omega | (simp; done) | (simp; omega)) _))⟩
  have HP : Hid (partOk V n) := allIn_yes HPB.out
  go_wp2_with fail
  go_loopw [0, 27] (fun f i wr => ∃ k : Nat, k ≤ n ∧ i = .int .i64 k ∧ f = .int .i64 (flo F V k) ∧ RowTo w wr n k (tak F V)) (fun _ i _ => n - (intOf i).toNat)
  case atStart => exact ⟨0, Nat.zero_le _, rfl, rfl, rowTo_start w n _ _⟩
  case round =>
    obtain ⟨k, hk, rfl, rfl, hM⟩ := hrel
    have HM : Hid (RowTo w wr n k (tak F V)) := hM
    obtain ⟨f0, f1⟩ := flo_bd h0 h1 k (fun j hj => HP.out j (by omega))
    obtain ⟨hB, hz, hf, hc⟩ := hM
    by_cases hlt : k < n
    · obtain ⟨g, o, rfl, hg, c0⟩ := HR.out k hlt
      have d0 : wr.cell? ⟨g, o + k, none⟩ = some (.int .i64 (V k)) := (hB.cell (p := ⟨g, o + k, none⟩) hg).trans c0
      have e0 := hc k hlt
      have zg : g < wr.heap.size := Nat.lt_of_lt_of_le hg hB.size
      have ne : ¬ g = w.heap.size := by omega
      have k1 : (k : Int) < (n : Int) := by omega
      have ET : Hid (tak F V k = flo F V k * V k / 1000) := rfl
      have EF : Hid (flo F V (k + 1) = flo F V k - flo F V k * V k / 1000) := rfl
      obtain ⟨y0, y1⟩ := HP.out k hlt
      obtain ⟨x, hx⟩ : ∃ x, x = flo F V k := ⟨_, rfl⟩
      obtain ⟨y, hy⟩ : ∃ y, y = V k := ⟨_, rfl⟩
      rw [← hx, ← hy] at ET EF
      rw [← hy] at d0 y0 y1
      rw [← hx] at f0 f1
      obtain ⟨p0, p1, p2, p3⟩ := bl_prod f0 f1 y0 y1
      rw [← hx]
      clear hx hy hc hB c0 hg
      go_wp2
      go_roundw
      case rel => exact ⟨k + 1, by omega, by go_num, by rw [EF.out], by have := rowTo_on HM.out (Below.refl _ _); rw [ET.out] at this; exact this⟩
      case measure => simp [intOf]; omega
    · obtain rfl : k = n := by omega
      clear hc
      go_wp2
      refine bodyPost_ret (v := .tuple #[.slice (some ⟨w.heap.size, 0, none⟩) k k, .int .i64 (flo F V k)]) (by simp [results, Try.results16, go_sem]) rfl ⟨k, _, _, _, .inl ⟨rfl, rfl, h0, h1, by omega, HP.out⟩, rfl, rowTo_own HM.out, hB⟩
theorem implBleed_any (F : Int) (s : Option Addr) (n c : Nat) (V : Nat → Int) (w : World) (hn : (n : Int) ≤ 1048576) (HR : Hid (RowI w s n V)) :
    Calls Try.prog 16 #[.int .i64 F, .slice s n c] w fun e w' => ∃ m r s' c', BleedV F n V m r ∧ e = .returned (.tuple #[.slice s' m c', .int .i64 r]) ∧ OwnI w.heap.size w' s' m (tak F V) ∧ Below w.heap.size w w' := by
  by_cases h : 0 ≤ F ∧ F ≤ 1000000000 ∧ n ≤ 100
  · exact implBleed_in F s n c V w h.1 h.2.1 (by omega) HR
  · exact implBleed_no F s n c V w h hn
end Go.Proofs.Ytkppgnpedbkbnaa
