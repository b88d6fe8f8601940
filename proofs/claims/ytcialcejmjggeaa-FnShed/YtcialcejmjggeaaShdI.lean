/-
What is proved: which machines impl.Shed cuts off.
-/
import Derived.Test.YtcialcejmjggeaaShdM
import Derived.Test.YtcialcejmjggeaaHpO
import Derived.Test.YtcialcejmjggeaaPwI
import Derived.Deep.RegionHeldLaw
import Derived.Deep.DeepCutAuto

namespace Go.Proofs.Ytcialcejmjggeaa
set_option maxRecDepth 40000
open Go.ChangeShapes Go.WideShapes Go.ChangeAt Go.RowKit
set_option linter.unusedVariables false
set_option linter.unusedSimpArgs false

set_option maxRecDepth 20000 in
set_option maxHeartbeats 4000000 in
theorem takenRunning_any (s : Option Addr) (n c : Nat) (V : Nat → Int) (w : World) (hn : n ≤ 60) (HM : Hid (∀ j, j < n → machB V j = true)) (HR : Hid (RowI w s (n * 4) V)) :
    Calls Try.prog 30 #[.slice s n c] w fun e w' => e = .returned (.int .i64 (runG V (shG V n 0) n)) ∧ Below w.heap.size w w' := by
  go_enter Try.func30, Try.ntmps30
  go_wp2_with fail
  go_loopw [3, 8] (fun q i wr => ∃ k : Nat, k ≤ n ∧ i = .int .i64 k ∧ q = .int .i64 (runG V (shG V n 0) k) ∧ Below w.heap.size w wr) (fun _ i _ => n - (intOf i).toNat)
  case atStart => exact ⟨0, Nat.zero_le _, rfl, rfl, Below.refl _ _⟩
  case round =>
    obtain ⟨k, hk, rfl, rfl, hB⟩ := hrel
    by_cases h1 : k < n
    · have pb := run_bd (V := V) (G := shG V n 0) hn hk HM.out
      have HS : Hid (runG V (shG V n 0) (k + 1) = runG V (shG V n 0) k + V (k * 4)) := run_free V n k
      obtain ⟨⟨vb0, vb1⟩, -, -, -⟩ := machV_yes (HM.out k h1)
      obtain ⟨p, hp⟩ : ∃ p, runG V (shG V n 0) k = p := ⟨_, rfl⟩
      rw [hp] at pb HS ⊢
      clear hp
      obtain ⟨pb0, pb1⟩ := pb
      obtain ⟨g, o, rfl, hg, c0⟩ := HR.out (k * 4) (by omega)
      obtain ⟨g', o', e', hg1, c1⟩ := HR.out (k * 4 + 1) (by omega)
      cases e'
      obtain ⟨g', o', e', hg2, c2⟩ := HR.out (k * 4 + 2) (by omega)
      cases e'
      obtain ⟨g', o', e', hg3, c3⟩ := HR.out (k * 4 + 3) (by omega)
      cases e'
      have d0 : wr.cell? ⟨g, o + k * 4, none⟩ = some (.int .i64 (V (k * 4))) := (hB.cell (p := ⟨g, o + k * 4, none⟩) hg).trans c0
      have d1 : wr.cell? ⟨g, o + k * 4 + 1, none⟩ = some (.int .i64 (V (k * 4 + 1))) := (hB.cell (p := ⟨g, o + (k * 4 + 1), none⟩) hg).trans c1
      have d2 : wr.cell? ⟨g, o + k * 4 + 2, none⟩ = some (.int .i64 (V (k * 4 + 2))) := (hB.cell (p := ⟨g, o + (k * 4 + 2), none⟩) hg).trans c2
      have d3 : wr.cell? ⟨g, o + k * 4 + 3, none⟩ = some (.int .i64 (V (k * 4 + 3))) := (hB.cell (p := ⟨g, o + (k * 4 + 3), none⟩) hg).trans c3
      have k1 : (k : Int) < (n : Int) := by omega
      have ew : IntKind.i64.wrap (p + V (k * 4)) = p + V (k * 4) := by rw [IntKind.wrap_i64]; omega
      have sB := hB.size
      have HB : Hid (Below w.heap.size w wr) := hB
      clear hB c0 c1 c2 c3 hg hg1 hg2 hg3
      go_wp2
      go_round
      case rel => exact ⟨k + 1, by omega, by go_num, by rw [HS.out], by have hB := HB.out; exact (by repeat (first | with_reducible exact Below.refl _ _ | with_reducible exact hB | with_reducible refine Below.setCell ?_ (by first | omega | (simp; done) | (simp; omega)) _ | with_reducible refine bDrewN ?_ _ | with_reducible refine Below.drew ?_ | with_reducible refine Below.alloc ?_ (by first | omega | (simp; done) | (simp; omega)) _))⟩
      case measure => simp [intOf]; omega
    · obtain rfl : k = n := by omega
      go_wp2
      go_ret
      exact ⟨rfl, (by repeat (first | with_reducible exact Below.refl _ _ | with_reducible exact hB | with_reducible refine Below.setCell ?_ (by first | omega | (simp; done) | (simp; omega)) _ | with_reducible refine bDrewN ?_ _ | with_reducible refine Below.drew ?_ | with_reducible refine Below.alloc ?_ (by first | omega | (simp; done) | (simp; omega)) _))⟩
set_option maxRecDepth 20000 in
set_option maxHeartbeats 4000000 in
theorem implShed_any (s : Option Addr) (n c : Nat) (V : Nat → Int) (most : Int) (w : World) (hn : (n : Int) ≤ 1048576) (HR0 : RowI w s (n * 4) V) :
    Calls Try.prog 11 #[.slice s n c, .int .i64 most] w fun e w' => ∃ s' c', e = .returned (.slice s' (shdN n V most) c') ∧ OwnI w.heap.size w' s' (shdN n V most) (fun j => shU V n j) ∧ Below w.heap.size w w' := by
  have HR : Hid (RowI w s (n * 4) V) := HR0
  clear HR0
  go_enter Try.func11, Try.ntmps11
  go_wp2_with fail
  refine (machinesOk_any s n c V _ HR).mono ?_
  rintro e w1 ⟨rfl, B1⟩
  have HB1 : Hid (Below w.heap.size w w1) := B1
  cases hm : machsB n V
  · have NO : Hid (shdN n V most = 0) := shd_no (.inl hm)
    have hB := HB1.out
    clear hm HR
    go_wp2
    go_ret
    exact ⟨none, 0, by rw [NO.out]; rfl, by rw [NO.out]; exact own_zero _ _ _ _, (by repeat (first | with_reducible exact Below.refl _ _ | with_reducible exact hB | with_reducible refine Below.setCell ?_ (by first | omega | (simp; done) | (simp; omega)) _ | with_reducible refine bDrewN ?_ _ | with_reducible refine Below.drew ?_ | with_reducible refine Below.alloc ?_ (by first | omega | (simp; done) | (simp; omega)) _))⟩
  by_cases h0 : most < 0
  · have NO : Hid (shdN n V most = 0) := shd_no (.inr h0)
    have hB := HB1.out
    clear hm HR
    go_wp2
    go_ret
    exact ⟨none, 0, by rw [NO.out]; rfl, by rw [NO.out]; exact own_zero _ _ _ _, (by repeat (first | with_reducible exact Below.refl _ _ | with_reducible exact hB | with_reducible refine Below.setCell ?_ (by first | omega | (simp; done) | (simp; omega)) _ | with_reducible refine bDrewN ?_ _ | with_reducible refine Below.drew ?_ | with_reducible refine Below.alloc ?_ (by first | omega | (simp; done) | (simp; omega)) _))⟩
  have p0 : 0 ≤ most := by omega
  have n60 : n ≤ 60 := (machs_yes hm).1
  have HM : Hid (∀ j, j < n → machB V j = true) := (machs_yes hm).2
  have HMS : Hid (machsB n V = true) := hm
  clear hm
  have HR1 : Hid (RowI w1 s (n * 4) V) := HR.out.below B1
  clear B1 HR hn
  go_wp2_with fail
  refine (takenRunning_any s n c V _ n60 HM HR1).mono ?_
  rintro e w2 ⟨rfl, B2⟩
  have HR2 : Hid (RowI w2 s (n * 4) V) := HR1.out.below B2
  have HB2 : Hid (Below w.heap.size w w2) := HB1.out.trans (B2.mono HB1.out.size)
  clear B2 HB1 HR1
  go_wp2_with fail
  refine (queueOfShed_any s n c V _ n60 HR2).mono ?_
  rintro e w3 ⟨q, P, rfl, hq, hQ, hB3, hG, hH⟩
  have HB3 : Hid (Below w.heap.size w w3) := HB2.out.trans (hB3.mono HB2.out.size)
  have HQ3 : Hid (QAt (fun b => w2.heap.size ≤ b ∧ b < w3.heap.size) q w3 true n V P) := hQ.mono (fun b hb hx => ⟨hx, hb⟩)
  have HG3 : Hid (HeapG (kO true V) 0 n P) := hG
  have HH3 : Hid (Hold n P (fun a => a < n ∧ shG V n 0 a = false)) := hold_congr hH (fun a => ⟨fun h => ⟨h, rfl⟩, fun h => h.1⟩)
  have s23 : w.heap.size ≤ w2.heap.size := HB2.out.size
  have s3 : w.heap.size ≤ w3.heap.size := HB3.out.size
  clear hQ hB3 hG hH HB2 HR2
  go_wp2_with fail
  go_loopw [5, 7] (fun tv cv wr => ∃ (j m : Nat) (P1 : Nat → Nat), j + m = n ∧ tv = .int .i64 (runG V (shG V n j) n) ∧ Hid (∀ i, i < j → most < runG V (shG V n i) n) ∧ Hid (QAt (fun b => w2.heap.size ≤ b ∧ b < w3.heap.size) q wr true m V P1) ∧ Hid (HeapG (kO true V) 0 m P1) ∧ Hid (Hold m P1 (fun a => a < n ∧ shG V n j a = false)) ∧ Hid (wr.ownsRow w3.heap.size 2 1 cv j (vals (fun j => shU V n j) j)) ∧ Hid (Below w.heap.size w wr) ∧ w3.heap.size ≤ wr.heap.size ∧ lenV cv = j) (fun _ cv _ => n - lenV cv)
  case atStart => exact ⟨0, n, P, by omega, rfl, fun i hi => by omega, HQ3, HG3, HH3, by show World.ownsRow _ _ _ _ _ _ _; simpa [vals] using World.ownsRow_nil w3 w3.heap.size 2 1, HB3, Nat.le_refl _, rfl⟩
  case round =>
    clear HQ3 HG3 HH3 HB3
    obtain ⟨j, m, P1, hjm, rfl, HRn, HQ, HG, HH, HO, HB, sz, hlen⟩ := hrel
    have HL : Hid (lenV u7 = j) := hlen
    clear hlen
    have tb := run_bd (V := V) (G := shG V n j) n60 (Nat.le_refl _) HM.out
    by_cases hj : most < runG V (shG V n j) n
    case neg =>
      have HE : Hid (shdN n V most = j) := shd_end HMS.out p0 HRn.out (by omega)
      clear HL
      obtain ⟨s', c', rfl, HOW⟩ := own_OwnI (size := 1) (n := j) (U := fun j => shU V n j) (by rw [Nat.mul_one]; exact HO.out)
      rw [Nat.mul_one] at HOW
      have HOW2 : Hid (OwnI w.heap.size wr s' j (fun j => shU V n j)) := HOW.mono s3
      clear HOW HO HQ HG HH HRn
      obtain ⟨t, ht⟩ : ∃ t, runG V (shG V n j) n = t := ⟨_, rfl⟩
      rw [ht] at hj tb ⊢
      clear ht
      go_wp2
      go_ret
      first
        | exact ⟨s', c', by rw [HE.out]; rfl, by rw [HE.out]; exact HOW2.out, HB.out⟩
        | exact ⟨s', ⟨c', by rw [HE.out]; rfl⟩, by rw [HE.out]; exact HOW2.out, HB.out⟩
    have jn : j < n := sh_left (m := m) (P := P1) p0 HM.out HRn.out hj
    obtain ⟨m, rfl⟩ : ∃ z, m = z + 1 := ⟨m - 1, by omega⟩
    obtain ⟨u1, u2, u3, u4⟩ := sh_pop n60 p0 HM.out HRn.out hj HG.out HH.out
    have HRn2 : Hid (∀ i, i < j + 1 → most < runG V (shG V n i) n) := fun i hi => by
      by_cases q : i = j
      · subst q; exact hj
      · exact HRn.out i (by omega)
    have HU1 : Hid (shU V n j = (P1 0 : Int)) := u1
    have HU4 : Hid (∀ a, ((a < n ∧ shG V n j a = false) ∧ a ≠ P1 0) ↔ (a < n ∧ shG V n (j + 1) a = false)) := u4
    have HU3 : Hid (runG V (shG V n (j + 1)) n = runG V (shG V n j) n - V (P1 0 * 4)) := u3
    obtain ⟨⟨vb0, vb1⟩, -, -, -⟩ := machV_yes (HM.out (P1 0) u2)
    have tb2 := run_bd (V := V) (G := shG V n (j + 1)) n60 (Nat.le_refl _) HM.out
    rw [u3] at tb2
    clear u1 u3 u4 HRn
    obtain ⟨t, ht⟩ : ∃ t, runG V (shG V n j) n = t := ⟨_, rfl⟩
    rw [ht] at hj tb tb2 HU3 ⊢
    clear ht
    have HS60 : Hid (∀ a, (a < n ∧ shG V n j a = false) → a < 60) := fun a h => by have := h.1; omega
    go_wp2_with fail
    refine (first_any true _ q m V P1 _ _ (by omega) HH HS60 HG HQ).mono ?_
    rintro e w4 ⟨P2, rfl, hQ2, hT2, hG2, hH2⟩
    have B4 : Below w3.heap.size w4 w4 := Below.refl _ _
    have HQ4 : Hid (QAt (fun b => w2.heap.size ≤ b ∧ b < w3.heap.size) q w4 true m V P2) := hQ2
    have HG4 : Hid (HeapG (kO true V) 0 m P2) := hG2
    have HH4 : Hid (Hold m P2 (fun a => a < n ∧ shG V n (j + 1) a = false)) := hold_congr hH2 HU4.out
    have HO4 : Hid (w4.ownsRow w3.heap.size 2 1 u7 j (vals (fun j => shU V n j) j)) := row_turn HO.out hT2 (fun g hg h => by have := own_block HO.out g hg; have := h.2; omega)
    have HB4 : Hid (Below w.heap.size w w4) := HB.out.trans (hT2.below (fun _ h => Nat.le_trans s23 h.1) HB.out.size)
    have s4 : w3.heap.size ≤ w4.heap.size := Nat.le_trans sz hT2.size
    clear hQ2 hT2 hG2 hH2 HQ HG HH HO HB HU4 HS60 B4 sz
    obtain ⟨a, hA⟩ : ∃ z, P1 0 = z := ⟨_, rfl⟩
    rw [hA] at HU1 HU3 u2 vb0 vb1 tb2 ⊢
    clear hA
    have ew : IntKind.i64.wrap (t - V (a * 4)) = t - V (a * 4) := by rw [IntKind.wrap_i64]; omega
    unfold plV
    go_upto_region 9 with fail
    obtain ⟨w5, hw5⟩ : ∃ z, z = w4.alloc (.cells #[.int .i64 (V (a * 4)), .int .i64 (V (a * 4 + 1)), .int .i64 (V (a * 4 + 2)), .int .i64 (V (a * 4 + 3)), .int .i64 (a : Int)] 55) := ⟨_, rfl⟩
    rw [← hw5]
    have b5 : Below w4.heap.size w4 w5 := by rw [hw5]; exact (by repeat (first | with_reducible exact Below.refl _ _ | with_reducible refine Below.setCell ?_ (by first | omega | (simp; done) | (simp; omega)) _ | with_reducible refine bDrewN ?_ _ | with_reducible refine Below.drew ?_ | with_reducible refine Below.alloc ?_ (by first | omega | (simp; done) | (simp; omega)) _))
    have f4 : w5.cell? ⟨w4.heap.size, 4, none⟩ = some (.int .i64 (a : Int)) := by rw [hw5]; simp [go_sem]
    have HQ5 : Hid (QAt (fun b => w2.heap.size ≤ b ∧ b < w3.heap.size) q w5 true m V P2) := HQ4.out.below b5
    have HO5 : Hid (w5.ownsRow w3.heap.size 2 1 u7 j (vals (fun j => shU V n j) j)) := row_turn HO4.out (Turn.grown (S := fun _ => False) b5) (fun _ _ h => h)
    have HB5 : Hid (Below w.heap.size w w5) := HB4.out.trans (b5.mono HB4.out.size)
    have s5 : w3.heap.size ≤ w5.heap.size := Nat.le_trans s4 b5.size
    clear hw5 b5 HQ4 HO4 HB4 s4
    go_wp2_with (first | (at_builtin; refine list_i64 w3.heap.size u7 j (vals (fun j => shU V n j) j) _ _ (by rfl) (by rfl) (by rfl) (by rfl) HO5.out (by omega) s5 ?_; intro g8 cap8 w8 o8 gr8 gz8))
    have HO8 : Hid (w8.ownsRow w3.heap.size 2 1 (.slice (some ⟨g8, 0, none⟩) (j + 1) cap8) (j + 1) (vals (fun j => shU V n j) (j + 1))) := by
      show World.ownsRow _ _ _ _ _ _ _
      rw [vals_succ]
      rw [show shU V n j = (a : Int) from HU1.out]
      exact o8
    have T8 : Turn (fun b => w3.heap.size ≤ b) w5 w8 := ⟨gr8.os, gr8.tape, gr8.output, gr8.size, fun k hk hk2 => gr8.block k hk (fun e => hk2 (own_block HO5.out k e.symm))⟩
    have HQ8 : Hid (QAt (fun b => w2.heap.size ≤ b ∧ b < w3.heap.size) q w8 true m V P2) := HQ5.out.turn T8 (fun b _ h h2 => by have := h.2; omega)
    have HB8 : Hid (Below w.heap.size w w8) := HB5.out.trans (T8.below (fun _ h => Nat.le_trans s3 h) HB5.out.size)
    have s8 : w3.heap.size ≤ w8.heap.size := Nat.le_trans s5 gr8.size
    clear o8 gr8 T8 HQ5 HO5 HB5 f4
    go_wp2
    go_roundw
    case rel => exact ⟨j + 1, m, P2, by omega, by rw [HU3.out], HRn2, HQ8, HG4, HH4, HO8, HB8, s8, rfl⟩
    case measure =>
      show n - (j + 1) < n - lenV u7
      rw [HL.out]; omega
end Go.Proofs.Ytcialcejmjggeaa
