/-
What is proved: a map that is drawn from a code: up to 13 lines, any numbers.
-/
import Derived.Test.YtbabedfbadlhjaaLnD
namespace Go.Proofs.Ytbabedfbadlhjaa
set_option maxRecDepth 40000
open Go.ChangeShapes Go.WideShapes Go.ChangeAt Go.RowKit
set_option linter.unusedVariables false
set_option linter.unusedSimpArgs false

def MapPost (w : World) (e : Ending) (w' : World) : Prop := ∃ (t : Option Addr) (m cap : Nat) (S : Nat → Int) (K : Nat → Nat) (V : Nat → Nat → Int), e = .returned (.slice t m cap) ∧ m ≤ 13 ∧ MapR w' t m S K V ∧ (∀ j, j < m → 1 ≤ K j ∧ K j ≤ 61) ∧ Below w.heap.size w w'
set_option maxRecDepth 20000 in
set_option maxHeartbeats 8000000 in
theorem drawMapOk_any {s : Option Addr} {n c : Nat} {w : World} (h : Hid (Code8 w s n)) :
    Calls Try.prog 10 #[.slice s n c] w fun e w' => MapPost w e w' := by
  go_enter Try.func10, Try.ntmps10
  go_wp2_with fail
  refine (open_any (h.out.below (by repeat (first | with_reducible exact Below.refl _ _ | with_reducible refine Below.setCell ?_ (by first | omega | (simp; done) | (simp; omega)) _ | with_reducible refine bDrewN ?_ _ | with_reducible refine Below.drew ?_ | with_reducible refine Below.alloc ?_ (by first | omega | (simp; done) | (simp; omega)) _)))).mono ?_
  rintro e w1 ⟨rfl, R_, b_⟩
  obtain ⟨r, hr⟩ : ∃ r, r = w.heap.size := ⟨_, rfl⟩
  have HR : Hid (Rd w1 r s n c 0) := by show Rd _ _ _ _ _ _; rw [hr]; simpa using R_
  have HB : Hid (Below w.heap.size w w1) := b_
  have zr : w.heap.size ≤ r := by omega
  try rw [← hr]
  clear R_ b_ h hr
  go_wp2_with fail
  refine (lines_any HR).mono ?_
  rintro e w2 hC
  unfold LinPost at hC
  obtain ⟨v, m, p2, rfl, hm1, hm6, hL, hR, bS⟩ := hC
  have z1 : r < w1.heap.size := HR.out.1
  replace HR : Hid (Rd w2 r s n c p2) := hR
  have HM : Hid (MpL (r + 1) w2 v m) := hL.low (by omega)
  replace HB : Hid (Below w.heap.size w w2) := HB.out.trans (bS.below (by omega) HB.out.size)
  clear hL hR bS z1
  go_wp2_with fail
  refine (once_any 20 (by omega) (by omega) HR).mono ?_
  rintro e w3 ⟨f1, p3, rfl, hR, bS⟩
  have z2 : r < w2.heap.size := HR.out.1
  replace HR : Hid (Rd w3 r s n c p3) := hR
  replace HM : Hid (MpL (r + 1) w3 v m) := HM.out.beside bS (by omega)
  replace HB : Hid (Below w.heap.size w w3) := HB.out.trans (bS.below (by omega) HB.out.size)
  clear hR bS z2
  cases f1
  case false =>
    obtain ⟨t, cap, rfl⟩ := HM.out.val
    obtain ⟨S, K, V, h1, h2⟩ := HM.out.map
    have hB := HB.out
    go_wp2
    go_ret
    unfold MapPost
    exact ⟨t, m, cap, S, K, V, rfl, by omega, h1, h2, hB⟩
  case true =>
    clear HM
    have z3 : r < w3.heap.size := HR.out.1
    go_upto_region 5 with fail
    obtain ⟨w4, hw4⟩ : ∃ z, z = w3.alloc (.cells #[] 29) := ⟨_, rfl⟩
    rw [← hw4]
    have b4 : Below w3.heap.size w3 w4 := by rw [hw4]; exact below0 _ _
    have HM : Hid (MpL (r + 1) w4 (.slice (some ⟨w3.heap.size, 0, none⟩) 0 0) 0) := by show MpL _ _ _ _; rw [hw4]; exact MpL.lit w3 _ (by omega)
    replace HR : Hid (Rd w4 r s n c p3) := HR.out.below b4
    replace HB : Hid (Below w.heap.size w w4) := HB.out.trans (b4.mono HB.out.size)
    obtain ⟨g0, hg0⟩ : ∃ z, z = w3.heap.size := ⟨_, rfl⟩
    rw [← hg0] at HM ⊢
    clear hw4 b4 hg0 z3
    go_wp2_with fail
    refine (below_any 2 HR).mono ?_
    rintro e w5 ⟨x, p4, rfl, x0, -, x2, hR, bS⟩
    have z3 : r < w4.heap.size := HR.out.1
    replace HM : Hid (MpL (r + 1) w5 (.slice (some ⟨g0, 0, none⟩) 0 0) 0) := HM.out.beside bS (by omega)
    replace HB : Hid (Below w.heap.size w w5) := HB.out.trans (bS.below (by omega) HB.out.size)
    have z4 : r < w5.heap.size := hR.1
    clear hR bS z3 HR
    obtain ⟨N, hN⟩ : ∃ N : Int, 12 + x = N := ⟨_, rfl⟩
    have N1 : 12 ≤ N := by omega
    have N2 : N ≤ 13 := by omega
    go_upto_region 6 with fail
    try rw [hN]
    clear hN x0 x2
    go_wp2_with fail
    go_loopw [4, 5] (fun v i wx => ∃ (k : Nat), (k : Int) ≤ N ∧ i = .int .i64 (N - k) ∧ Hid (MpL (r + 1) wx v k) ∧ Hid (Below w.heap.size w wx) ∧ r < wx.heap.size) (fun _ i _ => (intOf i).toNat)
    case atStart => exact ⟨0, by omega, by simp, HM, HB, z4⟩
    case round =>
      clear HM HB z4
      obtain ⟨k, hk, rfl, HM, HB, z5⟩ := hrel
      obtain ⟨t, cap, e9⟩ := HM.out.val
      subst e9
      by_cases hlt : (k : Int) < N
      · have q0 : 0 < N - (k : Int) := by omega
        go_wp2_with fail
        refine (l3Long_any _).mono ?_
        rintro e wb hL
        unfold LonPost at hL
        obtain ⟨vb, U, rfl, hl, bb⟩ := hL
        obtain ⟨tb, cb, eb, -⟩ := hl.own
        subst eb
        have hK := KnB.of hl (by omega)
        have HK : Hid (KnB (r + 1) wb tb 2 ∧ 2 ≤ cb) := ⟨hK.1.low (by omega), hK.2⟩
        replace HM : Hid (MpL (r + 1) wb (.slice t k cap) k) := HM.out.below bb
        replace HB : Hid (Below w.heap.size w wb) := HB.out.trans (bb.mono HB.out.size)
        have z6 : r < wb.heap.size := Nat.lt_of_lt_of_le z5 bb.size
        clear hl bb hK z5
        go_wp2_with (at_builtin; refine list_Line (r + 1) (.slice t k cap) k (.tmp 20) (.tmp 25) (by rfl) (by rfl) (by rfl) (by rfl) HM.out HK.out.1 (by omega) HK.out.2 (by omega) (by omega) (by omega) ?_; intro g7 cap7 w7 l7 b7)
        have HB9 : Hid (Below w.heap.size w w7) := HB.out.trans (b7.mono (by omega))
        have z9 : r < w7.heap.size := Nat.lt_of_lt_of_le z6 b7.size
        go_roundw
        case rel => exact ⟨k + 1, by omega, by congr 1; omega, l7, HB9, z9⟩
        case measure => simp [intOf]; omega
      · have k1 : ¬ 0 < N - (k : Int) := by omega
        obtain ⟨S, K, V, h1, h2⟩ := HM.out.map
        have hB := HB.out
        go_wp2
        go_ret
        unfold MapPost
        exact ⟨t, k, cap, S, K, V, rfl, by omega, h1, h2, hB⟩
end Go.Proofs.Ytbabedfbadlhjaa
