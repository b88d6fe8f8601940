/-
What is proved: what lies part of the way between two numbers, up to a NaN's bits; which lines of a map stand at or around a speed, as the specification tells them.
-/
import Derived.Test.YtbabedfbadlhjaaMap
import Derived.Test.YtbabedfbadlhjaaSameF
namespace Go.Proofs.Ytbabedfbadlhjaa
set_option maxRecDepth 40000
open Go.RowKit
set_option linter.unusedVariables false
set_option linter.unusedSimpArgs false

def itf (k : Int) : Nat := FloatKind.f64.nearest k
theorem itf_fl (k : Int) : Fl (itf k) (some (itf k)) := by
  have : rg (itf k) ≤ INF ∧ itf k < 18446744073709551616 := write_fin (.number (decide (k < 0)) k.natAbs 0) rfl
  exact ⟨this.2, .inl ⟨this.1, rfl⟩⟩
theorem conv_run (k : Int) (w : World) : (convert 2 30 (.int .i64 k)).run Try.prog w = .ok (.float .f64 (itf k)) w := by kernel_rfl
def partO (a d : Option Nat) (p q : Int) : Option Nat := opO .add a (opO .mul d (opO .quo (some (itf p)) (some (itf q))))
set_option maxHeartbeats 800000 in
theorem l6Part_any {x y : Nat} {a d : Option Nat} (hx : Fl x a) (hy : Fl y d) (p p0 p1 : Int) (w : World) (h0 : -1000000 ≤ p) (h1 : p ≤ 1000000) (h2 : -1000000 ≤ p0) (h3 : p0 ≤ 1000000) (h4 : -1000000 ≤ p1) (h5 : p1 ≤ 1000000) : Calls Try.prog 61 #[.float .f64 x, .float .f64 y, .int .i64 p, .int .i64 p0, .int .i64 p1] w fun e w' => ∃ r n, e = .returned (.float .f64 r) ∧ Fl r (partO a d (p - p0) (p1 - p0)) ∧ w' = w.drewN n := by
  have cv : ∀ k w, (convert 2 30 (.int .i64 k)).run Try.prog w = .ok (.float .f64 (itf k)) w := fun k w => conv_run k w
  go_enter Try.func61, Try.ntmps61
  go_wp2_with (first
    | (refine list_fop .quo rfl 30 30 (.tmp 16) (.tmp 20) (by rfl) (by rfl) (by rfl) (by rfl) (itf_fl _) (itf_fl _) ?_; intro f n1 hf)
    | (refine list_fop .mul rfl 30 30 (.tmp 22) (.tmp 23) (by rfl) (by rfl) (by rfl) (by rfl) hy hf ?_; intro g n2 hg)
    | (refine list_fop .add rfl 30 30 (.tmp 25) (.tmp 26) (by rfl) (by rfl) (by rfl) (by rfl) hx hg ?_; intro r n3 hr))
  go_ret
  exact ⟨r, n1 + n2 + n3, rfl, hr, by simp [Nat.add_assoc]⟩
set_option maxHeartbeats 800000 in
theorem partWay_any {x y : Nat} {a d : Option Nat} (hx : Fl x a) (hy : Fl y d) (p q : Int) (w : World) : Calls Try.prog 54 #[.float .f64 x, .float .f64 y, .int .i64 p, .int .i64 q] w fun e w' => ∃ r n, e = .returned (.float .f64 r) ∧ Fl r (partO a d p q) ∧ w' = w.drewN n := by
  have cv : ∀ k w, (convert 2 30 (.int .i64 k)).run Try.prog w = .ok (.float .f64 (itf k)) w := fun k w => conv_run k w
  go_enter Try.func54, Try.ntmps54
  go_wp2_with (first
    | (refine list_fop .quo rfl 30 30 (.tmp 12) (.tmp 14) (by rfl) (by rfl) (by rfl) (by rfl) (itf_fl _) (itf_fl _) ?_; intro f n1 hf)
    | (refine list_fop .mul rfl 30 30 (.tmp 10) (.tmp 15) (by rfl) (by rfl) (by rfl) (by rfl) hy hf ?_; intro g n2 hg)
    | (refine list_fop .add rfl 30 30 (.tmp 9) (.tmp 16) (by rfl) (by rfl) (by rfl) (by rfl) hx hg ?_; intro r n3 hr))
  go_ret
  exact ⟨r, n1 + n2 + n3, rfl, hr, by simp [Nat.add_assoc]⟩
theorem fl_nanM {r : Nat} (h : r < 18446744073709551616) (n : INF < rg r) : Fl r none := ⟨h, .inr ⟨n, rfl⟩⟩
set_option maxHeartbeats 400000 in
theorem l1NoneM_any (w : World) : Calls Try.prog 47 #[] w fun e w' => ∃ r n, e = .returned (.float .f64 r) ∧ Fl r none ∧ w' = w.drewN n := by
  have e0 : opO .quo (some 0) (some 0) = none := by kernel_rfl
  go_enter Try.func47, Try.ntmps47
  go_wp2_with (first
    | (refine list_fop .quo rfl 30 30 (.tmp 2) (.tmp 3) (by rfl) (by rfl) (by rfl) (by rfl) fl_zero fl_zero ?_; intro r n hr))
  go_ret
  rw [e0] at hr
  exact ⟨r, n, rfl, hr, rfl⟩
theorem frombits_runM (z : Int) (w : World) : Sem.run Try.prog (callFunc 57 #[.int .u64 z]) w = .ok (.value (.float .f64 z.toNat)) w := by kernel_rfl
set_option maxHeartbeats 400000 in
theorem nanM_any (w : World) : Calls Try.prog 42 #[] w fun e w' => ∃ r, e = .returned (.float .f64 r) ∧ Fl r none ∧ w' = w := by
  have hb := frombits_runM
  go_enter Try.func42, Try.ntmps42
  go_wp2
  go_ret
  exact ⟨9221120237041090561, rfl, fl_nanM (by decide) (by decide), rfl⟩

/-- The lines at or around a speed. -/
def LinesV (n : Nat) (S : Nat → Int) (x i k : Int) : Prop := (∃ a : Nat, a < n ∧ S a = x ∧ i = a ∧ k = a) ∨ (∃ a : Nat, a + 1 < n ∧ S a < x ∧ x < S (a + 1) ∧ i = a ∧ k = a + 1) ∨ ((∀ a, a < n → S a ≠ x) ∧ (∀ a, a + 1 < n → ¬ (S a < x ∧ x < S (a + 1))) ∧ i = -1 ∧ k = -1)
set_option maxHeartbeats 800000 in
theorem l6Lines_no (s : Option Addr) (n c : Nat) (S : Nat → Int) (K : Nat → Nat) (V : Nat → Nat → Int) (x : Int) (w : World) (hm : mapB n S K V = false) (HR : Hid (MapR w s n S K V)) : Calls Try.prog 46 #[.slice s n c, .int .i64 x] w fun e w' => e = .returned (.tuple #[.int .i64 (-1), .int .i64 (-1)]) ∧ ∃ q, w' = w.drewN q := by
  have MK : Hid (∀ w', Below w.heap.size w w' → Calls Try.prog 12 #[.slice s n c] w' fun e w'' => e = .returned (.bool false) ∧ ∃ m', w'' = w'.drewN m') := fun w' hb => by rw [← hm]; exact specMapOk_any s n c S K V w' (HR.out.below hb)
  go_enter Try.func46, Try.ntmps46
  go_wp2_with fail
  go_loopw [6] (fun i wr => i = .int .i64 0 ∧ wr = w) (fun i _ => 0)
  case atStart => exact ⟨rfl, rfl⟩
  case round =>
    obtain ⟨rfl, rfl⟩ := hrel
    go_wp2_with fail
    refine (MK.out _ (Below.refl _ _)).mono ?_
    rintro e w1 ⟨rfl, q, rfl⟩
    go_wp2
    exact bodyPost_ret (v := .tuple #[.int .i64 (-1), .int .i64 (-1)]) (by simp [results, Try.results46, go_sem]) rfl ⟨rfl, q, rfl⟩
set_option maxRecDepth 20000 in
set_option maxHeartbeats 2000000 in
theorem l6Lines_go (s : Option Addr) (n c : Nat) (S : Nat → Int) (K : Nat → Nat) (V : Nat → Nat → Int) (x : Int) (w : World) (hn : (n : Int) ≤ 12) (hm : mapB n S K V = true) (HR : Hid (MapR w s n S K V)) : Calls Try.prog 46 #[.slice s n c, .int .i64 x] w fun e w' => (∃ i k, LinesV n S x i k ∧ e = .returned (.tuple #[.int .i64 i, .int .i64 k])) ∧ ∃ q, w' = w.drewN q := by
  have MK : Hid (∀ w', Below w.heap.size w w' → Calls Try.prog 12 #[.slice s n c] w' fun e w'' => e = .returned (.bool true) ∧ ∃ m', w'' = w'.drewN m') := fun w' hb => by rw [← hm]; exact specMapOk_any s n c S K V w' (HR.out.below hb)
  go_enter Try.func46, Try.ntmps46
  go_wp2_with fail
  go_loopw [6] (fun i wr => ∃ k : Nat, k ≤ n ∧ i = .int .i64 k ∧ (∃ q, wr = w.drewN q) ∧ Hid ((∀ a, a < k → S a ≠ x) ∧ ∀ a, a + 1 < k → ¬ (S a < x ∧ x < S (a + 1)))) (fun i _ => n - (intOf i).toNat)
  case atStart => exact ⟨0, Nat.zero_le _, rfl, ⟨0, rfl⟩, fun a ha => by omega, fun a ha => by omega⟩
  case round =>
    obtain ⟨k, hk, rfl, hW, hP⟩ := hrel
    have HW : Hid (∃ q, wr = w.drewN q) := hW
    have hB : Below w.heap.size w wr := by obtain ⟨q, e⟩ := hW; rw [e]; exact bDrewN (Below.refl _ _) _
    clear hW
    go_wp2_with fail
    refine (MK.out _ hB).mono ?_
    rintro e w1 ⟨rfl, q1, rfl⟩
    by_cases h1 : k < n
    · obtain ⟨g, o, t, c', rfl, hg, c0, c1, RK⟩ := HR.out k h1
      have u0 : wr.cell? ⟨g, o + k * 2, none⟩ = some (.int .i64 (S k)) := (hB.cell (p := ⟨g, o + k * 2, none⟩) hg).trans c0
      have k1 : (k : Int) < (n : Int) := by omega
      have HN : Hid (k < n) := h1
      clear c0 c1 RK
      by_cases e1 : S k = x
      · have b1 : (S k == x) = true := by simp [e1]
        have HL : Hid (LinesV n S x k k) := .inl ⟨k, h1, e1, rfl, rfl⟩
        clear e1
        go_wp2
        exact bodyPost_ret (v := .tuple #[.int .i64 k, .int .i64 k]) (by simp [results, Try.results46, go_sem]) rfl ⟨⟨k, k, HL.out, rfl⟩, dq HW.out _⟩
      · have b1 : (S k == x) = false := by simp [e1]
        rcases Nat.eq_zero_or_pos k with z | z
        · subst z
          have e1' : ∀ a, a < 0 + 1 → S a ≠ x := fun a ha => by
            have ez : a = 0 := by omega
            rw [ez]; exact e1
          have PN : Hid ((∀ a, a < 0 + 1 → S a ≠ x) ∧ ∀ a, a + 1 < 0 + 1 → ¬ (S a < x ∧ x < S (a + 1))) := ⟨e1', fun a ha => by omega⟩
          clear e1'
          simp only [Nat.zero_mul, Nat.add_zero, Nat.zero_add] at u0
          go_wp2
          go_roundw
          case rel => exact ⟨1, by omega, by go_num, dq HW.out _, PN⟩
          case measure => simp [intOf]; omega
        · obtain ⟨m, rfl⟩ : ∃ m, k = m + 1 := ⟨k - 1, by omega⟩
          obtain ⟨g', o', t', c'', e', hg', c2, _, _⟩ := HR.out m (by omega)
          cases e'
          have u2 : wr.cell? ⟨g, o + m * 2, none⟩ = some (.int .i64 (S m)) := (hB.cell (p := ⟨g, o + m * 2, none⟩) hg').trans c2
          clear c2 hg'
          by_cases e2 : S m < x
          · by_cases e3 : x < S (m + 1)
            · have HL : Hid (LinesV n S x m (m + 1)) := .inr (.inl ⟨m, HN.out, e2, e3, rfl, rfl⟩)
              go_wp2
              exact bodyPost_ret (v := .tuple #[.int .i64 m, .int .i64 (m + 1)]) (by simp [results, Try.results46, go_sem]) rfl ⟨⟨m, m + 1, HL.out, rfl⟩, dq HW.out _⟩
            · have b3 : decide (x < S (m + 1)) = false := by simp; omega
              have PN : Hid ((∀ a, a < m + 1 + 1 → S a ≠ x) ∧ ∀ a, a + 1 < m + 1 + 1 → ¬ (S a < x ∧ x < S (a + 1))) := ⟨fun a ha => by
                  by_cases q : a = m + 1
                  · subst q; exact e1
                  · exact hP.out.1 a (by omega), fun a ha => by
                  by_cases q : a = m
                  · subst q; exact fun r => e3 r.2
                  · exact hP.out.2 a (by omega)⟩
              go_wp2
              go_roundw
              case rel => exact ⟨m + 1 + 1, by omega, by go_num, dq HW.out _, PN⟩
              case measure => simp [intOf]; omega
          · have b2 : decide (S m < x) = false := by simp; omega
            have PN : Hid ((∀ a, a < m + 1 + 1 → S a ≠ x) ∧ ∀ a, a + 1 < m + 1 + 1 → ¬ (S a < x ∧ x < S (a + 1))) := ⟨fun a ha => by
                by_cases q : a = m + 1
                · subst q; exact e1
                · exact hP.out.1 a (by omega), fun a ha => by
                by_cases q : a = m
                · subst q; exact fun r => e2 r.1
                · exact hP.out.2 a (by omega)⟩
            go_wp2
            go_roundw
            case rel => exact ⟨m + 1 + 1, by omega, by go_num, dq HW.out _, PN⟩
            case measure => simp [intOf]; omega
    · obtain rfl : k = n := by omega
      have HL : Hid (LinesV k S x (-1) (-1)) := .inr (.inr ⟨hP.out.1, hP.out.2, rfl, rfl⟩)
      go_wp2
      exact bodyPost_ret (v := .tuple #[.int .i64 (-1), .int .i64 (-1)]) (by simp [results, Try.results46, go_sem]) rfl ⟨⟨-1, -1, HL.out, rfl⟩, dq HW.out _⟩
end Go.Proofs.Ytbabedfbadlhjaa
