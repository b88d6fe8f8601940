/-
What is proved: the first machine of a queue that fits, and what is left in the queue.
-/
import Derived.Test.YtcialcejmjggeaaLdF
import Derived.Test.YtcialcejmjggeaaHpO
import Derived.Deep.RegionHeldLaw
import Derived.Deep.DeepCutAuto

namespace Go.Proofs.Ytcialcejmjggeaa
set_option maxRecDepth 40000
open Go.ChangeShapes Go.WideShapes Go.ChangeAt Go.RowKit
set_option linter.unusedVariables false
set_option linter.unusedSimpArgs false

def bolW : Value → Nat
  | .bool true => 0
  | _ => 1
theorem row_slice {w : World} {base : Nat} {e : TypeId} {size : Nat} {v : Value} {n : Nat} {xs : List Value} (h : w.ownsRow base e size v n xs) : ∃ s cap, v = .slice s n cap := by
  rcases h.2 with ⟨rfl, rfl⟩ | ⟨g, cap, cur, rfl, _⟩
  · exact ⟨none, 0, rfl⟩
  · exact ⟨_, cap, rfl⟩
theorem row_pl {w : World} {base m cap k : Nat} {s : Option Addr} {V : Nat → Int} {U : Nat → Nat} (h : w.ownsRow base 55 5 (.slice s m cap) m (vals (qF V U) (m * 5))) (hk : k < m) : ∃ g, s = some ⟨g, 0, none⟩ ∧ g < w.heap.size ∧ PlAt w g k V (U k) := by
  have h' := h
  rcases h.2 with ⟨e, e2⟩ | ⟨g, cap', cur, e, hb, hg, _⟩
  · omega
  · cases e
    obtain ⟨e0, e1, e2, e3, e4⟩ := qF_at V U k
    refine ⟨g, rfl, (Array.getElem?_eq_some_iff.1 hg).1, ?_, ?_, ?_, ?_, ?_⟩
    · rw [h'.cellAt (k * 5) (by omega), vals_at _ (by omega), e0]
    · rw [h'.cellAt (k * 5 + 1) (by omega), vals_at _ (by omega), e1]
    · rw [h'.cellAt (k * 5 + 2) (by omega), vals_at _ (by omega), e2]
    · rw [h'.cellAt (k * 5 + 3) (by omega), vals_at _ (by omega), e3]
    · rw [h'.cellAt (k * 5 + 4) (by omega), vals_at _ (by omega), e4]
def lenW : Value → Nat
  | .slice _ n _ => n
  | _ => 0
set_option maxRecDepth 20000 in
set_option maxHeartbeats 4000000 in
theorem firstWithin_any (X : Nat → Prop) (q n : Nat) (V : Nat → Int) (P : Nat → Nat) (S : Nat → Prop) (room : Int) (w : World) (hn : n ≤ 60) (HX : Hid (∀ b, w.heap.size ≤ b → X b)) (HM : Hid (∀ a, S a → a < 60 ∧ machB V a = true)) (HH : Hid (Hold n P S)) (HG : Hid (HeapG (kO false V) 0 n P)) (HQ : Hid (QAt X q w false n V P)) :
    Calls Try.prog 39 #[.pointer (some ⟨q, 0, none⟩), .int .i64 room] w fun e w' => ∃ pl f, e = .returned (.tuple #[.int .i64 pl, .bool f]) ∧ FwPost X q n V S room pl f w w' := by
  have HQ0 : Hid (QAt (fun b => X b ∧ b < w.heap.size) q w false n V P) := HQ.out.mono (fun b hb hx => ⟨hx, hb⟩)
  clear HQ
  obtain ⟨U0, hU0⟩ : ∃ z : Nat → Nat, z = fun i => i := ⟨_, rfl⟩
  clear hU0
  have HOn : Hid (w.ownsRow w.heap.size 55 5 (.slice none 0 0) 0 (vals (qF V U0) (0 * 5))) := by
    show World.ownsRow _ _ _ _ _ _ _
    simpa [vals] using World.ownsRow_nil w w.heap.size 55 5
  have HFw : Hid (FwL V S room n 0 P U0) := fw_start HH.out
  go_enter Try.func39, Try.ntmps39
  go_wp2_with fail
  go_loopw [6, 7, 8] (fun cv pv fv wr => ∃ (n1 m : Nat) (P1 U : Nat → Nat), Hid (QAt (fun b => X b ∧ b < w.heap.size) q wr false n1 V P1) ∧ Hid (HeapG (kO false V) 0 n1 P1) ∧ Hid (wr.ownsRow w.heap.size 55 5 cv m (vals (qF V U) (m * 5))) ∧ Hid (Turn X w wr) ∧ n1 ≤ n ∧ m ≤ n ∧
    ((pv = .int .i64 0 ∧ fv = .bool false ∧ n1 + m = n ∧ Hid (FwL V S room n1 m P1 U)) ∨ (∃ a : Nat, pv = .int .i64 (a : Int) ∧ fv = .bool true ∧ n1 + m + 1 = n ∧ Hid (S a ∧ fitQ V room a ∧ (∀ i, i < m → U i ≠ a) ∧ (∀ b, S b → fitQ V room b → kStart V a ≤ kStart V b) ∧ Hold n1 P1 (fun b => (S b ∧ ∀ i, i < m → U i ≠ b) ∧ b ≠ a) ∧ (∀ i, i < m → S (U i)) ∧ ∀ i j, i < m → j < m → U i = U j → i = j))))
    (fun cv _ fv _ => bolW fv + (n - lenW cv))
  case atStart => exact ⟨n, 0, P, U0, HQ0, HG, HOn, Turn.refl _ _, Nat.le_refl _, Nat.zero_le _, .inl ⟨rfl, rfl, rfl, HFw⟩⟩
  case round =>
    clear HQ0 HG HOn HFw HH
    obtain ⟨n1, m, P1, U, HQ, HG, HO, HT, hn1, hmn, hcase⟩ := hrel
    have szT := HT.out.size
    rcases hcase with ⟨rfl, rfl, hnm, HF⟩ | ⟨a, rfl, rfl, hnm, HFF⟩
    case inr =>
      obtain ⟨sp, cp, rfl⟩ := row_slice HO.out
      rename World => wl
      have HHo : Hid (Hold n1 P1 (fun b => (S b ∧ ∀ i, i < m → U i ≠ b) ∧ b ≠ a)) := HFF.out.2.2.2.2.1
      have HSU : Hid (∀ i, i < m → S (U i)) := HFF.out.2.2.2.2.2.1
      have HIJ : Hid (∀ i j, i < m → j < m → U i = U j → i = j) := HFF.out.2.2.2.2.2.2
      have HUA : Hid (∀ i, i < m → U i ≠ a) := HFF.out.2.2.1
      by_cases hz : 0 < n1
      · have hz2 : 0 < (n1 : Int) := by omega
        go_wp2_with fail
        refine (qlen_any false _ q n1 V P1 _ HQ).mono ?_
        rintro e wl ⟨rfl, rfl⟩
        have HXw : Hid (∀ b, w.heap.size ≤ b → X b) := HX
        have HX2 : Hid (∀ b, (X b ∧ b < w.heap.size) → (X b ∧ b < w.heap.size) ∨ wl.heap.size ≤ b) := fun b h => .inl h
        have HQ2 : Hid (QAt (fun b => (X b ∧ b < w.heap.size) ∨ wl.heap.size ≤ b) q wl false (n1 + 0) V P1) := HQ.out.mono (fun b _ h => .inl h)
        have HG2 : Hid (HeapG (kO false V) 0 (n1 + 0) P1) := HG.out
        have HNX : Hid (∀ g, (Value.slice sp m cp).ownBlock = some g → ¬ ((X g ∧ g < w.heap.size) ∨ wl.heap.size ≤ g)) := fun g hg => by
          have := HO.out.lt g hg
          rintro (h | h) <;> omega
        have HH2 : Hid (Hold (n1 + 0) P1 (fun b => (fun b => (S b ∧ ∀ i, i < m → U i ≠ b) ∧ b ≠ a) b ∨ ∃ i, i < 0 ∧ U i = b)) := hold_congr HHo.out (fun b => ⟨fun h => .inl h, fun h => h.elim id (fun ⟨i, hi, _⟩ => by omega)⟩)
        have HT2 : Hid (Turn X w wl) := HT
        have szl : w.heap.size ≤ wl.heap.size := HT.out.size
        clear HQ HG HHo HT
        go_wp2_with fail
        go_loopw [38] (fun iv wx => ∃ (k : Nat) (Pk : Nat → Nat), k ≤ m ∧ iv = .int .i64 k ∧ Hid (QAt (fun b => (X b ∧ b < w.heap.size) ∨ wl.heap.size ≤ b) q wx false (n1 + k) V Pk) ∧ Hid (HeapG (kO false V) 0 (n1 + k) Pk) ∧ Hid (Hold (n1 + k) Pk (fun b => (fun b => (S b ∧ ∀ i, i < m → U i ≠ b) ∧ b ≠ a) b ∨ ∃ i, i < k ∧ U i = b)) ∧ Hid (Turn X w wx) ∧ wl.heap.size ≤ wx.heap.size ∧ Hid (wx.ownsRow w.heap.size 55 5 (.slice sp m cp) m (vals (qF V U) (m * 5)))) (fun iv _ => m - (intOf iv).toNat)
        case atStart => exact ⟨0, P1, Nat.zero_le _, rfl, HQ2, HG2, HH2, HT2, Nat.le_refl _, HO⟩
        case round =>
          clear HQ2 HG2 HH2 HT2 HO
          obtain ⟨k, Pk, hk, rfl, HQ, HG, HH, HT, sz, HO⟩ := hrel
          by_cases h1 : k < m
          case neg =>
            obtain rfl : k = m := by omega
            have HQF : Hid (QAt X q wr false (n1 + k) V Pk) := HQ.out.mono (fun b _ h => h.elim (fun h => h.1) (fun h => HXw.out b (by omega)))
            clear HQ
            have HHF : Hid (Hold (n1 + k) Pk (fun b => S b ∧ b ≠ a)) := hold_congr HH.out (fun b => ⟨fun h => h.elim (fun h => ⟨h.1.1, h.2⟩) (fun ⟨i, hi, e⟩ => e ▸ ⟨HSU.out i hi, HUA.out i hi⟩), fun h => (Classical.em (∃ i, i < k ∧ U i = b)).elim .inr (fun q => .inl ⟨⟨h.1, fun i hi e => q ⟨i, hi, e⟩⟩, h.2⟩)⟩)
            clear HH
            go_wp2
            refine bodyPost_ret (v := .tuple #[.int .i64 (a : Int), .bool true]) (by simp [results, Try.results39, go_sem]) rfl ⟨_, _, rfl, HT.out, ?_⟩
            exact .inl ⟨rfl, a, n1 + k, Pk, rfl, by omega, HFF.out.1, HFF.out.2.1, HFF.out.2.2.2.1, HQF.out, HG.out, HHF.out⟩
          have k1 : (k : Int) < (m : Int) := by omega
          obtain ⟨g, rfl, zg, hpl⟩ := row_pl HO.out h1
          unfold PlAt at hpl
          obtain ⟨d0, d1, d2, d3, d4⟩ := hpl
          have hSu := HSU.out k h1
          have hu60 := (HM.out _ hSu).1
          have HNA : Hid (¬ ((fun b => (S b ∧ ∀ i, i < m → U i ≠ b) ∧ b ≠ a) (U k) ∨ ∃ i, i < k ∧ U i = U k)) := by
            rintro (h | ⟨i, hi, e⟩)
            · exact h.1.2 k h1 rfl
            · have := HIJ.out i k (by omega) h1 e; omega
          have HS6 : Hid (∀ b, ((fun b => (S b ∧ ∀ i, i < m → U i ≠ b) ∧ b ≠ a) b ∨ ∃ i, i < k ∧ U i = b) → b < 60) := fun b h => by
            rcases h with h | ⟨i, hi, rfl⟩
            · exact (HM.out b h.1.1).1
            · exact (HM.out _ (HSU.out i (by omega))).1
          have nk : n1 + k + 1 < 1000 := by omega
          obtain ⟨a2, ha2⟩ : ∃ z, U k = z := ⟨_, rfl⟩
          have HA2 : Hid (U k = a2) := ha2
          rw [ha2] at d0 d1 d2 d3 d4 hu60 HNA
          clear ha2 hSu
          go_upto_region 11 with fail
          obtain ⟨wp, hwp⟩ : ∃ z, z = wr.alloc (.cells #[.int .i64 (V (a2 * 4)), .int .i64 (V (a2 * 4 + 1)), .int .i64 (V (a2 * 4 + 2)), .int .i64 (V (a2 * 4 + 3)), .int .i64 (a2 : Int)] 55) := ⟨_, rfl⟩
          rw [← hwp]
          have bp : Below wr.heap.size wr wp := by rw [hwp]; exact (by repeat (first | with_reducible exact Below.refl _ _ | with_reducible refine Below.setCell ?_ (by first | omega | (simp; done) | (simp; omega)) _ | with_reducible refine bDrewN ?_ _ | with_reducible refine Below.drew ?_ | with_reducible refine Below.alloc ?_ (by first | omega | (simp; done) | (simp; omega)) _))
          have f0 : wp.cell? ⟨wr.heap.size, 0, none⟩ = some (.int .i64 (V (a2 * 4))) := by rw [hwp]; simp [go_sem]
          have f1 : wp.cell? ⟨wr.heap.size, 1, none⟩ = some (.int .i64 (V (a2 * 4 + 1))) := by rw [hwp]; simp [go_sem]
          have f2 : wp.cell? ⟨wr.heap.size, 2, none⟩ = some (.int .i64 (V (a2 * 4 + 2))) := by rw [hwp]; simp [go_sem]
          have f3 : wp.cell? ⟨wr.heap.size, 3, none⟩ = some (.int .i64 (V (a2 * 4 + 3))) := by rw [hwp]; simp [go_sem]
          have f4 : wp.cell? ⟨wr.heap.size, 4, none⟩ = some (.int .i64 (a2 : Int)) := by rw [hwp]; simp [go_sem]
          have HQp : Hid (QAt (fun b => (X b ∧ b < w.heap.size) ∨ wl.heap.size ≤ b) q wp false (n1 + k) V Pk) := HQ.out.below bp
          have HOp : Hid (wp.ownsRow w.heap.size 55 5 (.slice (some ⟨g, 0, none⟩) m cp) m (vals (qF V U) (m * 5))) := row_turn HO.out (Turn.grown (S := fun _ => False) bp) (fun _ _ f => f)
          have HTp : Hid (Turn X w wp) := HT.out.trans (Turn.grown bp)
          have szp : wl.heap.size ≤ wp.heap.size := Nat.le_trans sz bp.size
          have HXp : Hid (∀ b, wp.heap.size ≤ b → (X b ∧ b < w.heap.size) ∨ wl.heap.size ≤ b) := fun b h => .inr (Nat.le_trans szp h)
          clear hwp bp HQ HO HT sz d0 d1 d2 d3 d4 zg
          go_wp2_with fail
          refine (hpush_any false (fun b => (X b ∧ b < w.heap.size) ∨ wl.heap.size ≤ b) q (n1 + k) a2 V Pk _ _ nk hu60 HNA HXp HH HS6 HG HQp).mono ?_
          rintro e w7 ⟨P7, rfl, hQ7, hT7, hG7, hH7⟩
          have HQ7 : Hid (QAt (fun b => (X b ∧ b < w.heap.size) ∨ wl.heap.size ≤ b) q w7 false (n1 + (k + 1)) V P7) := hQ7
          have HG7 : Hid (HeapG (kO false V) 0 (n1 + (k + 1)) P7) := hG7
          have HH7 : Hid (Hold (n1 + (k + 1)) P7 (fun b => (fun b => (S b ∧ ∀ i, i < m → U i ≠ b) ∧ b ≠ a) b ∨ ∃ i, i < k + 1 ∧ U i = b)) := hold_congr hH7 (fun b => fw_one (S0 := (fun b => (S b ∧ ∀ i, i < m → U i ≠ b) ∧ b ≠ a)) HA2.out)
          have HO7 : Hid (w7.ownsRow w.heap.size 55 5 (.slice (some ⟨g, 0, none⟩) m cp) m (vals (qF V U) (m * 5))) := row_turn HOp.out hT7 (fun g' e => HNX.out g' e)
          have HT7 : Hid (Turn X w w7) := HTp.out.step hT7 (fun b h => h.elim (fun h => .inl h.1) (fun h => .inr (by omega)))
          have sz7 : wl.heap.size ≤ w7.heap.size := Nat.le_trans szp hT7.size
          clear hQ7 hT7 hG7 hH7 HQp HOp HTp HXp HNA HS6 HH HG f0 f1 f2 f3 f4
          go_wp2
          go_roundw
          case rel => exact ⟨k + 1, P7, by omega, by go_num, HQ7, HG7, HH7, HT7, sz7, HO7⟩
          case measure => simp [intOf]; omega
      · have hz2 : decide (0 < (n1 : Int)) = false := by first | (simp; done) | (simp; omega)
        have HZ : Hid (¬ 0 < n1) := hz
        clear hz
        go_wp2_with fail
        refine (qlen_any false _ q n1 V P1 _ HQ).mono ?_
        rintro e wl ⟨rfl, rfl⟩
        have HXw : Hid (∀ b, w.heap.size ≤ b → X b) := HX
        have HX2 : Hid (∀ b, (X b ∧ b < w.heap.size) → (X b ∧ b < w.heap.size) ∨ wl.heap.size ≤ b) := fun b h => .inl h
        have HQ2 : Hid (QAt (fun b => (X b ∧ b < w.heap.size) ∨ wl.heap.size ≤ b) q wl false (n1 + 0) V P1) := HQ.out.mono (fun b _ h => .inl h)
        have HG2 : Hid (HeapG (kO false V) 0 (n1 + 0) P1) := HG.out
        have HNX : Hid (∀ g, (Value.slice sp m cp).ownBlock = some g → ¬ ((X g ∧ g < w.heap.size) ∨ wl.heap.size ≤ g)) := fun g hg => by
          have := HO.out.lt g hg
          rintro (h | h) <;> omega
        have HH2 : Hid (Hold (n1 + 0) P1 (fun b => (fun b => (S b ∧ ∀ i, i < m → U i ≠ b) ∧ b ≠ a) b ∨ ∃ i, i < 0 ∧ U i = b)) := hold_congr HHo.out (fun b => ⟨fun h => .inl h, fun h => h.elim id (fun ⟨i, hi, _⟩ => by omega)⟩)
        have HT2 : Hid (Turn X w wl) := HT
        have szl : w.heap.size ≤ wl.heap.size := HT.out.size
        clear HQ HG HHo HT
        go_wp2_with fail
        go_loopw [38] (fun iv wx => ∃ (k : Nat) (Pk : Nat → Nat), k ≤ m ∧ iv = .int .i64 k ∧ Hid (QAt (fun b => (X b ∧ b < w.heap.size) ∨ wl.heap.size ≤ b) q wx false (n1 + k) V Pk) ∧ Hid (HeapG (kO false V) 0 (n1 + k) Pk) ∧ Hid (Hold (n1 + k) Pk (fun b => (fun b => (S b ∧ ∀ i, i < m → U i ≠ b) ∧ b ≠ a) b ∨ ∃ i, i < k ∧ U i = b)) ∧ Hid (Turn X w wx) ∧ wl.heap.size ≤ wx.heap.size ∧ Hid (wx.ownsRow w.heap.size 55 5 (.slice sp m cp) m (vals (qF V U) (m * 5)))) (fun iv _ => m - (intOf iv).toNat)
        case atStart => exact ⟨0, P1, Nat.zero_le _, rfl, HQ2, HG2, HH2, HT2, Nat.le_refl _, HO⟩
        case round =>
          clear HQ2 HG2 HH2 HT2 HO
          obtain ⟨k, Pk, hk, rfl, HQ, HG, HH, HT, sz, HO⟩ := hrel
          by_cases h1 : k < m
          case neg =>
            obtain rfl : k = m := by omega
            have HQF : Hid (QAt X q wr false (n1 + k) V Pk) := HQ.out.mono (fun b _ h => h.elim (fun h => h.1) (fun h => HXw.out b (by omega)))
            clear HQ
            have HHF : Hid (Hold (n1 + k) Pk (fun b => S b ∧ b ≠ a)) := hold_congr HH.out (fun b => ⟨fun h => h.elim (fun h => ⟨h.1.1, h.2⟩) (fun ⟨i, hi, e⟩ => e ▸ ⟨HSU.out i hi, HUA.out i hi⟩), fun h => (Classical.em (∃ i, i < k ∧ U i = b)).elim .inr (fun q => .inl ⟨⟨h.1, fun i hi e => q ⟨i, hi, e⟩⟩, h.2⟩)⟩)
            clear HH
            go_wp2
            refine bodyPost_ret (v := .tuple #[.int .i64 (a : Int), .bool true]) (by simp [results, Try.results39, go_sem]) rfl ⟨_, _, rfl, HT.out, ?_⟩
            exact .inl ⟨rfl, a, n1 + k, Pk, rfl, by omega, HFF.out.1, HFF.out.2.1, HFF.out.2.2.2.1, HQF.out, HG.out, HHF.out⟩
          have k1 : (k : Int) < (m : Int) := by omega
          obtain ⟨g, rfl, zg, hpl⟩ := row_pl HO.out h1
          unfold PlAt at hpl
          obtain ⟨d0, d1, d2, d3, d4⟩ := hpl
          have hSu := HSU.out k h1
          have hu60 := (HM.out _ hSu).1
          have HNA : Hid (¬ ((fun b => (S b ∧ ∀ i, i < m → U i ≠ b) ∧ b ≠ a) (U k) ∨ ∃ i, i < k ∧ U i = U k)) := by
            rintro (h | ⟨i, hi, e⟩)
            · exact h.1.2 k h1 rfl
            · have := HIJ.out i k (by omega) h1 e; omega
          have HS6 : Hid (∀ b, ((fun b => (S b ∧ ∀ i, i < m → U i ≠ b) ∧ b ≠ a) b ∨ ∃ i, i < k ∧ U i = b) → b < 60) := fun b h => by
            rcases h with h | ⟨i, hi, rfl⟩
            · exact (HM.out b h.1.1).1
            · exact (HM.out _ (HSU.out i (by omega))).1
          have nk : n1 + k + 1 < 1000 := by omega
          obtain ⟨a2, ha2⟩ : ∃ z, U k = z := ⟨_, rfl⟩
          have HA2 : Hid (U k = a2) := ha2
          rw [ha2] at d0 d1 d2 d3 d4 hu60 HNA
          clear ha2 hSu
          go_upto_region 11 with fail
          obtain ⟨wp, hwp⟩ : ∃ z, z = wr.alloc (.cells #[.int .i64 (V (a2 * 4)), .int .i64 (V (a2 * 4 + 1)), .int .i64 (V (a2 * 4 + 2)), .int .i64 (V (a2 * 4 + 3)), .int .i64 (a2 : Int)] 55) := ⟨_, rfl⟩
          rw [← hwp]
          have bp : Below wr.heap.size wr wp := by rw [hwp]; exact (by repeat (first | with_reducible exact Below.refl _ _ | with_reducible refine Below.setCell ?_ (by first | omega | (simp; done) | (simp; omega)) _ | with_reducible refine bDrewN ?_ _ | with_reducible refine Below.drew ?_ | with_reducible refine Below.alloc ?_ (by first | omega | (simp; done) | (simp; omega)) _))
          have f0 : wp.cell? ⟨wr.heap.size, 0, none⟩ = some (.int .i64 (V (a2 * 4))) := by rw [hwp]; simp [go_sem]
          have f1 : wp.cell? ⟨wr.heap.size, 1, none⟩ = some (.int .i64 (V (a2 * 4 + 1))) := by rw [hwp]; simp [go_sem]
          have f2 : wp.cell? ⟨wr.heap.size, 2, none⟩ = some (.int .i64 (V (a2 * 4 + 2))) := by rw [hwp]; simp [go_sem]
          have f3 : wp.cell? ⟨wr.heap.size, 3, none⟩ = some (.int .i64 (V (a2 * 4 + 3))) := by rw [hwp]; simp [go_sem]
          have f4 : wp.cell? ⟨wr.heap.size, 4, none⟩ = some (.int .i64 (a2 : Int)) := by rw [hwp]; simp [go_sem]
          have HQp : Hid (QAt (fun b => (X b ∧ b < w.heap.size) ∨ wl.heap.size ≤ b) q wp false (n1 + k) V Pk) := HQ.out.below bp
          have HOp : Hid (wp.ownsRow w.heap.size 55 5 (.slice (some ⟨g, 0, none⟩) m cp) m (vals (qF V U) (m * 5))) := row_turn HO.out (Turn.grown (S := fun _ => False) bp) (fun _ _ f => f)
          have HTp : Hid (Turn X w wp) := HT.out.trans (Turn.grown bp)
          have szp : wl.heap.size ≤ wp.heap.size := Nat.le_trans sz bp.size
          have HXp : Hid (∀ b, wp.heap.size ≤ b → (X b ∧ b < w.heap.size) ∨ wl.heap.size ≤ b) := fun b h => .inr (Nat.le_trans szp h)
          clear hwp bp HQ HO HT sz d0 d1 d2 d3 d4 zg
          go_wp2_with fail
          refine (hpush_any false (fun b => (X b ∧ b < w.heap.size) ∨ wl.heap.size ≤ b) q (n1 + k) a2 V Pk _ _ nk hu60 HNA HXp HH HS6 HG HQp).mono ?_
          rintro e w7 ⟨P7, rfl, hQ7, hT7, hG7, hH7⟩
          have HQ7 : Hid (QAt (fun b => (X b ∧ b < w.heap.size) ∨ wl.heap.size ≤ b) q w7 false (n1 + (k + 1)) V P7) := hQ7
          have HG7 : Hid (HeapG (kO false V) 0 (n1 + (k + 1)) P7) := hG7
          have HH7 : Hid (Hold (n1 + (k + 1)) P7 (fun b => (fun b => (S b ∧ ∀ i, i < m → U i ≠ b) ∧ b ≠ a) b ∨ ∃ i, i < k + 1 ∧ U i = b)) := hold_congr hH7 (fun b => fw_one (S0 := (fun b => (S b ∧ ∀ i, i < m → U i ≠ b) ∧ b ≠ a)) HA2.out)
          have HO7 : Hid (w7.ownsRow w.heap.size 55 5 (.slice (some ⟨g, 0, none⟩) m cp) m (vals (qF V U) (m * 5))) := row_turn HOp.out hT7 (fun g' e => HNX.out g' e)
          have HT7 : Hid (Turn X w w7) := HTp.out.step hT7 (fun b h => h.elim (fun h => .inl h.1) (fun h => .inr (by omega)))
          have sz7 : wl.heap.size ≤ w7.heap.size := Nat.le_trans szp hT7.size
          clear hQ7 hT7 hG7 hH7 HQp HOp HTp HXp HNA HS6 HH HG f0 f1 f2 f3 f4
          go_wp2
          go_roundw
          case rel => exact ⟨k + 1, P7, by omega, by go_num, HQ7, HG7, HH7, HT7, sz7, HO7⟩
          case measure => simp [intOf]; omega
    case inl =>
      by_cases hz : n1 = 0
      case pos =>
        obtain ⟨sp, cp, rfl⟩ := row_slice HO.out
        rename World => wl
        have HNONE : Hid (∀ b, S b → ¬ fitQ V room b) := fw_none (by rw [← hz]; exact HF.out)
        have HHo : Hid (Hold n1 P1 (fun b => S b ∧ ∀ i, i < m → U i ≠ b)) := HF.out.1
        have HSU : Hid (∀ i, i < m → S (U i)) := fun i hi => (HF.out.2.1 i hi).1
        have HIJ : Hid (∀ i j, i < m → j < m → U i = U j → i = j) := HF.out.2.2
        have HNN : Hid (n1 + m = n) := hnm
        have hz2 : decide (0 < (n1 : Int)) = false := by first | (simp; done) | (simp; omega)
        have HZ : Hid (n1 = 0) := hz
        have hz3 : ¬ 0 < n1 := by omega
        have hz4 : ¬ (0 : Int) < (n1 : Int) := by omega
        clear HF hz hnm
        go_wp2_with fail
        refine (qlen_any false _ q n1 V P1 _ HQ).mono ?_
        rintro e wl ⟨rfl, rfl⟩
        clear hz2
        have HXw : Hid (∀ b, w.heap.size ≤ b → X b) := HX
        have HX2 : Hid (∀ b, (X b ∧ b < w.heap.size) → (X b ∧ b < w.heap.size) ∨ wl.heap.size ≤ b) := fun b h => .inl h
        have HQ2 : Hid (QAt (fun b => (X b ∧ b < w.heap.size) ∨ wl.heap.size ≤ b) q wl false (n1 + 0) V P1) := HQ.out.mono (fun b _ h => .inl h)
        have HG2 : Hid (HeapG (kO false V) 0 (n1 + 0) P1) := HG.out
        have HNX : Hid (∀ g, (Value.slice sp m cp).ownBlock = some g → ¬ ((X g ∧ g < w.heap.size) ∨ wl.heap.size ≤ g)) := fun g hg => by
          have := HO.out.lt g hg
          rintro (h | h) <;> omega
        have HH2 : Hid (Hold (n1 + 0) P1 (fun b => (fun b => S b ∧ ∀ i, i < m → U i ≠ b) b ∨ ∃ i, i < 0 ∧ U i = b)) := hold_congr HHo.out (fun b => ⟨fun h => .inl h, fun h => h.elim id (fun ⟨i, hi, _⟩ => by omega)⟩)
        have HT2 : Hid (Turn X w wl) := HT
        have szl : w.heap.size ≤ wl.heap.size := HT.out.size
        clear HQ HG HHo HT
        go_wp2_with fail
        go_loopw [38] (fun iv wx => ∃ (k : Nat) (Pk : Nat → Nat), k ≤ m ∧ iv = .int .i64 k ∧ Hid (QAt (fun b => (X b ∧ b < w.heap.size) ∨ wl.heap.size ≤ b) q wx false (n1 + k) V Pk) ∧ Hid (HeapG (kO false V) 0 (n1 + k) Pk) ∧ Hid (Hold (n1 + k) Pk (fun b => (fun b => S b ∧ ∀ i, i < m → U i ≠ b) b ∨ ∃ i, i < k ∧ U i = b)) ∧ Hid (Turn X w wx) ∧ wl.heap.size ≤ wx.heap.size ∧ Hid (wx.ownsRow w.heap.size 55 5 (.slice sp m cp) m (vals (qF V U) (m * 5)))) (fun iv _ => m - (intOf iv).toNat)
        case atStart => exact ⟨0, P1, Nat.zero_le _, rfl, HQ2, HG2, HH2, HT2, Nat.le_refl _, HO⟩
        case round =>
          clear HQ2 HG2 HH2 HT2 HO
          obtain ⟨k, Pk, hk, rfl, HQ, HG, HH, HT, sz, HO⟩ := hrel
          by_cases h1 : k < m
          case neg =>
            obtain rfl : k = m := by omega
            have HQF : Hid (QAt X q wr false (n1 + k) V Pk) := HQ.out.mono (fun b _ h => h.elim (fun h => h.1) (fun h => HXw.out b (by omega)))
            clear HQ
            have HHF : Hid (Hold (n1 + k) Pk S) := hold_congr HH.out (fun b => ⟨fun h => h.elim (fun h => h.1) (fun ⟨i, hi, e⟩ => e ▸ HSU.out i hi), fun h => (Classical.em (∃ i, i < k ∧ U i = b)).elim .inr (fun q => .inl ⟨h, fun i hi e => q ⟨i, hi, e⟩⟩)⟩)
            clear HH
            go_wp2
            refine bodyPost_ret (v := .tuple #[.int .i64 0, .bool false]) (by simp [results, Try.results39, go_sem]) rfl ⟨_, _, rfl, HT.out, ?_⟩
            exact .inr ⟨rfl, Pk, HNONE.out, by rw [← HNN.out]; exact HQF.out, by rw [← HNN.out]; exact HG.out, by rw [← HNN.out]; exact HHF.out⟩
          have k1 : (k : Int) < (m : Int) := by omega
          obtain ⟨g, rfl, zg, hpl⟩ := row_pl HO.out h1
          unfold PlAt at hpl
          obtain ⟨d0, d1, d2, d3, d4⟩ := hpl
          have hSu := HSU.out k h1
          have hu60 := (HM.out _ hSu).1
          have HNA : Hid (¬ ((fun b => S b ∧ ∀ i, i < m → U i ≠ b) (U k) ∨ ∃ i, i < k ∧ U i = U k)) := by
            rintro (h | ⟨i, hi, e⟩)
            · exact h.2 k h1 rfl
            · have := HIJ.out i k (by omega) h1 e; omega
          have HS6 : Hid (∀ b, ((fun b => S b ∧ ∀ i, i < m → U i ≠ b) b ∨ ∃ i, i < k ∧ U i = b) → b < 60) := fun b h => by
            rcases h with h | ⟨i, hi, rfl⟩
            · exact (HM.out b h.1).1
            · exact (HM.out _ (HSU.out i (by omega))).1
          have nk : n1 + k + 1 < 1000 := by omega
          obtain ⟨a2, ha2⟩ : ∃ z, U k = z := ⟨_, rfl⟩
          have HA2 : Hid (U k = a2) := ha2
          rw [ha2] at d0 d1 d2 d3 d4 hu60 HNA
          clear ha2 hSu
          go_upto_region 11 with fail
          obtain ⟨wp, hwp⟩ : ∃ z, z = wr.alloc (.cells #[.int .i64 (V (a2 * 4)), .int .i64 (V (a2 * 4 + 1)), .int .i64 (V (a2 * 4 + 2)), .int .i64 (V (a2 * 4 + 3)), .int .i64 (a2 : Int)] 55) := ⟨_, rfl⟩
          rw [← hwp]
          have bp : Below wr.heap.size wr wp := by rw [hwp]; exact (by repeat (first | with_reducible exact Below.refl _ _ | with_reducible refine Below.setCell ?_ (by first | omega | (simp; done) | (simp; omega)) _ | with_reducible refine bDrewN ?_ _ | with_reducible refine Below.drew ?_ | with_reducible refine Below.alloc ?_ (by first | omega | (simp; done) | (simp; omega)) _))
          have f0 : wp.cell? ⟨wr.heap.size, 0, none⟩ = some (.int .i64 (V (a2 * 4))) := by rw [hwp]; simp [go_sem]
          have f1 : wp.cell? ⟨wr.heap.size, 1, none⟩ = some (.int .i64 (V (a2 * 4 + 1))) := by rw [hwp]; simp [go_sem]
          have f2 : wp.cell? ⟨wr.heap.size, 2, none⟩ = some (.int .i64 (V (a2 * 4 + 2))) := by rw [hwp]; simp [go_sem]
          have f3 : wp.cell? ⟨wr.heap.size, 3, none⟩ = some (.int .i64 (V (a2 * 4 + 3))) := by rw [hwp]; simp [go_sem]
          have f4 : wp.cell? ⟨wr.heap.size, 4, none⟩ = some (.int .i64 (a2 : Int)) := by rw [hwp]; simp [go_sem]
          have HQp : Hid (QAt (fun b => (X b ∧ b < w.heap.size) ∨ wl.heap.size ≤ b) q wp false (n1 + k) V Pk) := HQ.out.below bp
          have HOp : Hid (wp.ownsRow w.heap.size 55 5 (.slice (some ⟨g, 0, none⟩) m cp) m (vals (qF V U) (m * 5))) := row_turn HO.out (Turn.grown (S := fun _ => False) bp) (fun _ _ f => f)
          have HTp : Hid (Turn X w wp) := HT.out.trans (Turn.grown bp)
          have szp : wl.heap.size ≤ wp.heap.size := Nat.le_trans sz bp.size
          have HXp : Hid (∀ b, wp.heap.size ≤ b → (X b ∧ b < w.heap.size) ∨ wl.heap.size ≤ b) := fun b h => .inr (Nat.le_trans szp h)
          clear hwp bp HQ HO HT sz d0 d1 d2 d3 d4 zg
          go_wp2_with fail
          refine (hpush_any false (fun b => (X b ∧ b < w.heap.size) ∨ wl.heap.size ≤ b) q (n1 + k) a2 V Pk _ _ nk hu60 HNA HXp HH HS6 HG HQp).mono ?_
          rintro e w7 ⟨P7, rfl, hQ7, hT7, hG7, hH7⟩
          have HQ7 : Hid (QAt (fun b => (X b ∧ b < w.heap.size) ∨ wl.heap.size ≤ b) q w7 false (n1 + (k + 1)) V P7) := hQ7
          have HG7 : Hid (HeapG (kO false V) 0 (n1 + (k + 1)) P7) := hG7
          have HH7 : Hid (Hold (n1 + (k + 1)) P7 (fun b => (fun b => S b ∧ ∀ i, i < m → U i ≠ b) b ∨ ∃ i, i < k + 1 ∧ U i = b)) := hold_congr hH7 (fun b => fw_one (S0 := (fun b => S b ∧ ∀ i, i < m → U i ≠ b)) HA2.out)
          have HO7 : Hid (w7.ownsRow w.heap.size 55 5 (.slice (some ⟨g, 0, none⟩) m cp) m (vals (qF V U) (m * 5))) := row_turn HOp.out hT7 (fun g' e => HNX.out g' e)
          have HT7 : Hid (Turn X w w7) := HTp.out.step hT7 (fun b h => h.elim (fun h => .inl h.1) (fun h => .inr (by omega)))
          have sz7 : wl.heap.size ≤ w7.heap.size := Nat.le_trans szp hT7.size
          clear hQ7 hT7 hG7 hH7 HQp HOp HTp HXp HNA HS6 HH HG f0 f1 f2 f3 f4
          go_wp2
          go_roundw
          case rel => exact ⟨k + 1, P7, by omega, by go_num, HQ7, HG7, HH7, HT7, sz7, HO7⟩
          case measure => simp [intOf]; omega
      case neg =>
        obtain ⟨k1, rfl⟩ : ∃ z, n1 = z + 1 := ⟨n1 - 1, by omega⟩
        have kz : 0 < ((k1 + 1 : Nat) : Int) := by omega
        have hmn2 : m < n := by omega
        go_wp2_with fail
        refine (qlen_any false _ q (k1 + 1) V P1 _ HQ).mono ?_
        rintro e wr ⟨rfl, rfl⟩
        have HFs : Hid (∀ b, (S b ∧ ∀ i, i < m → U i ≠ b) → b < 60) := fun b h => (HM.out b h.1).1
        have HHo : Hid (Hold (k1 + 1) P1 (fun b => S b ∧ ∀ i, i < m → U i ≠ b)) := HF.out.1
        go_wp2_with fail
        refine (first_any false _ q k1 V P1 _ _ (by omega) HHo HFs HG HQ).mono ?_
        rintro e w4 ⟨P2, rfl, hQ2, hT2, hG2, hH2⟩
        have HFD : Hid (S (P1 0) ∧ (∀ i, i < m → U i ≠ P1 0) ∧ ∀ b, S b → fitQ V room b → kStart V (P1 0) ≤ kStart V b) := fw_found HF.out HG.out
        have HPS : Hid (¬ fitQ V room (P1 0) → FwL V S room k1 (m + 1) P2 (pushP U m (P1 0))) := fun hf => fw_pass HF.out rfl hf hH2
        have HHP : Hid (Hold k1 P2 (fun b => (S b ∧ ∀ i, i < m → U i ≠ b) ∧ b ≠ P1 0)) := hH2
        have HSI : Hid ((∀ i, i < m → S (U i)) ∧ ∀ i j, i < m → j < m → U i = U j → i = j) := ⟨fun i hi => (HF.out.2.1 i hi).1, HF.out.2.2⟩
        have HQ4 : Hid (QAt (fun b => X b ∧ b < w.heap.size) q w4 false k1 V P2) := hQ2
        have HG4 : Hid (HeapG (kO false V) 0 k1 P2) := hG2
        have HO4 : Hid (w4.ownsRow w.heap.size 55 5 u6 m (vals (qF V U) (m * 5))) := row_turn HO.out hT2 (fun g hg h => by have := own_block HO.out g hg; have := h.2; omega)
        have HT4 : Hid (Turn X w w4) := HT.out.trans (hT2.mono (fun b h => h.1))
        clear hQ2 hT2 hG2 hH2 HQ HG HO HT HF HHo HFs szT
        have hM0 := HM.out _ HFD.out.1
        obtain ⟨⟨va0, va1⟩, ⟨vb0, vb1⟩, -, -⟩ := machV_yes hM0.2
        obtain ⟨a, hA⟩ : ∃ z, P1 0 = z := ⟨_, rfl⟩
        rw [hA] at HFD HPS HHP va0 va1 vb0 vb1 ⊢
        clear hA hM0
        have ew : IntKind.i64.wrap (V (a * 4) + V (a * 4 + 1)) = V (a * 4) + V (a * 4 + 1) := by rw [IntKind.wrap_i64]; omega
        unfold plV
        go_upto_region 5 with fail
        obtain ⟨w5, hw5⟩ : ∃ z, z = w4.alloc (.cells #[.int .i64 (V (a * 4)), .int .i64 (V (a * 4 + 1)), .int .i64 (V (a * 4 + 2)), .int .i64 (V (a * 4 + 3)), .int .i64 (a : Int)] 55) := ⟨_, rfl⟩
        rw [← hw5]
        have b5 : Below w4.heap.size w4 w5 := by rw [hw5]; exact (by repeat (first | with_reducible exact Below.refl _ _ | with_reducible refine Below.setCell ?_ (by first | omega | (simp; done) | (simp; omega)) _ | with_reducible refine bDrewN ?_ _ | with_reducible refine Below.drew ?_ | with_reducible refine Below.alloc ?_ (by first | omega | (simp; done) | (simp; omega)) _))
        have f0 : w5.cell? ⟨w4.heap.size, 0, none⟩ = some (.int .i64 (V (a * 4))) := by rw [hw5]; simp [go_sem]
        have f1 : w5.cell? ⟨w4.heap.size, 1, none⟩ = some (.int .i64 (V (a * 4 + 1))) := by rw [hw5]; simp [go_sem]
        have f2 : w5.cell? ⟨w4.heap.size, 2, none⟩ = some (.int .i64 (V (a * 4 + 2))) := by rw [hw5]; simp [go_sem]
        have f3 : w5.cell? ⟨w4.heap.size, 3, none⟩ = some (.int .i64 (V (a * 4 + 3))) := by rw [hw5]; simp [go_sem]
        have f4 : w5.cell? ⟨w4.heap.size, 4, none⟩ = some (.int .i64 (a : Int)) := by rw [hw5]; simp [go_sem]
        have HQ5 : Hid (QAt (fun b => X b ∧ b < w.heap.size) q w5 false k1 V P2) := HQ4.out.below b5
        have HO5 : Hid (w5.ownsRow w.heap.size 55 5 u6 m (vals (qF V U) (m * 5))) := row_turn HO4.out (Turn.grown (S := fun _ => False) b5) (fun _ _ f => f)
        have HT5 : Hid (Turn X w w5) := HT4.out.trans (Turn.grown b5)
        have s5 : w.heap.size ≤ w5.heap.size := HT5.out.size
        clear hw5 b5 HQ4 HO4 HT4
        by_cases hfit : V (a * 4) + V (a * 4 + 1) ≤ room
        · have HFF : Hid (S a ∧ fitQ V room a ∧ (∀ i, i < m → U i ≠ a) ∧ (∀ b, S b → fitQ V room b → kStart V a ≤ kStart V b) ∧ Hold k1 P2 (fun b => (S b ∧ ∀ i, i < m → U i ≠ b) ∧ b ≠ a) ∧ (∀ i, i < m → S (U i)) ∧ ∀ i j, i < m → j < m → U i = U j → i = j) := ⟨HFD.out.1, hfit, HFD.out.2.1, HFD.out.2.2, HHP.out, HSI.out.1, HSI.out.2⟩
          have hnm2 : k1 + m + 1 = n := by omega
          clear HFD HPS HHP HSI
          go_wp2
          go_roundw
          case rel => exact ⟨k1, m, P2, U, HQ5, HG4, HO5, HT5, by omega, by omega, .inr ⟨a, rfl, rfl, hnm2, HFF⟩⟩
          case measure =>
            show 0 + (n - lenW u6) < 1 + (n - lenW u6)
            omega
        · have HFN : Hid (FwL V S room k1 (m + 1) P2 (pushP U m a)) := HPS.out hfit
          obtain ⟨sp, cp, rfl⟩ := row_slice HO5.out
          clear HFD HPS HHP HSI
          go_wp2_with (first | (at_builtin; refine list_placed w.heap.size (.slice sp m cp) m (vals (qF V U) (m * 5)) _ _ (by rfl) (by rfl) (by rfl) (by rfl) HO5.out (by omega) s5 ?_; intro g8 cap8 w8 o8 gr8 gz8))
          have HO8 : Hid (w8.ownsRow w.heap.size 55 5 (.slice (some ⟨g8, 0, none⟩) (m + 1) cap8) (m + 1) (vals (qF V (pushP U m a)) ((m + 1) * 5))) := by
            show World.ownsRow _ _ _ _ _ _ _
            rw [vals_pushP]
            exact o8
          have T8 : Turn (fun b => w.heap.size ≤ b) w5 w8 := ⟨gr8.os, gr8.tape, gr8.output, gr8.size, fun k hk hk2 => gr8.block k hk (fun e => hk2 (own_block HO5.out k e.symm))⟩
          have HQ8 : Hid (QAt (fun b => X b ∧ b < w.heap.size) q w8 false k1 V P2) := HQ5.out.turn T8 (fun b _ h h2 => by have := h.2; omega)
          have HT8 : Hid (Turn X w w8) := HT5.out.step T8 (fun b h => .inr h)
          have hnm2 : k1 + (m + 1) = n := by omega
          clear o8 gr8 gz8 T8 HQ5 HO5 HT5
          go_wp2
          go_roundw
          case rel => exact ⟨k1, m + 1, P2, pushP U m a, HQ8, HG4, HO8, HT8, by omega, by omega, .inl ⟨rfl, rfl, hnm2, HFN⟩⟩
          case measure =>
            show 1 + (n - (m + 1)) < 1 + (n - m)
            omega
end Go.Proofs.Ytcialcejmjggeaa
