/-
What is proved: a frame's bytes, as the program writes them.
-/
import Derived.Test.YtkocbklkiehdiaaWf
import Derived.Test.YtkocbklkiehdiaaCzI
namespace Go.Proofs.Ytkocbklkiehdiaa
set_option maxRecDepth 40000
open Go.RowKit
set_option linter.unusedVariables false
set_option linter.unusedSimpArgs false

set_option maxHeartbeats 1000000 in
theorem wordOf_any (x : Int) (w : World) (x0 : 0 ≤ x) (x1 : x ≤ 65535) :
    Calls Try.prog 57 #[.int .i64 x] w fun e w' => e = .returned (.agg #[.int .u8 (x / 256), .int .u8 (x % 256)]) ∧ Below w.heap.size w w' := by
  go_enter Try.func57, Try.ntmps57
  go_wp2
  exact bodyPost_ret (v := .agg #[.int .u8 (x / 256), .int .u8 (x % 256)]) (by simp [results, Try.results57, go_sem]) rfl ⟨rfl, (by repeat (first | with_reducible exact Below.refl _ _ | with_reducible refine Below.setCell ?_ (by first | omega | (simp; done) | (simp; omega)) _ | with_reducible refine bDrewN ?_ _ | with_reducible refine Below.drew ?_ | with_reducible refine Below.alloc ?_ (by first | omega | (simp; done) | (simp; omega)) _))⟩
theorem madeY_none (w : World) {base H : Nat} (hH : w.heap.size = H) (hb : base ≤ H) : MadeY base (w.alloc (.cells #[] 5)) (.slice (some ⟨H, 0, none⟩) 0 0) [] := by
  subst hH
  exact madeY_lit w hb #[] [] (by simp) rfl
set_option maxHeartbeats 1000000 in
theorem withWord_any (base : Nat) (v : Value) (l : List Int) (x : Int) (w : World) (hx : 0 ≤ x ∧ x ≤ 65535) (hb : base ≤ w.heap.size) (hl : l.length ≤ 100000) (HM : Hid (MadeY base w v l)) :
    Calls Try.prog 58 #[v, .int .i64 x] w fun e w' => ∃ g k cap, e = .returned (.slice (some ⟨g, 0, none⟩) k cap) ∧ MadeY base w' (.slice (some ⟨g, 0, none⟩) k cap) (l ++ [x / 256, x % 256]) ∧ Below base w w' := by
  obtain ⟨x0, x1⟩ := hx
  go_enter Try.func58, Try.ntmps58
  go_wp2_with fail
  refine (wordOf_any x _ x0 x1).mono ?_
  rintro e w1 ⟨rfl, h1⟩
  have M1 : Hid (MadeY base w1 v l) := HM.out.below h1
  have s1 := h1.size
  go_wp2_with (first | (refine list_bytes base v l [x / 256, x % 256] w1.heap.size 2 2 _ _ (by rfl) (by rfl) (by rfl) (by rfl) rfl (by decide) (M1.out.below (by repeat (first | with_reducible exact Below.refl _ _ | with_reducible refine Below.setCell ?_ (by first | omega | (simp; done) | (simp; omega)) _ | with_reducible refine bDrewN ?_ _ | with_reducible refine Below.drew ?_ | with_reducible refine Below.alloc ?_ (by first | omega | (simp; done) | (simp; omega)) _))) (by simp; omega) hl (by decide) (two_get (by first | (simp; done) | (simp [go_sem]; done)) (by first | (simp; done) | (simp [go_sem]; done))) ?_; intro g k cap w' M h))
  go_ret
  exact ⟨g, k, cap, rfl, M, Below.trans (h1.mono hb) (Below.trans (Below.mono (B := w1.heap.size) (by repeat (first | with_reducible exact Below.refl _ _ | with_reducible refine Below.setCell ?_ (by first | omega | (simp; done) | (simp; omega)) _ | with_reducible refine bDrewN ?_ _ | with_reducible refine Below.drew ?_ | with_reducible refine Below.alloc ?_ (by first | omega | (simp; done) | (simp; omega)) _)) (by omega)) h)⟩
theorem implSum_any (base : Nat) (g m cap : Nat) (l : List Int) (w : World) (hl : (l.length : Int) ≤ 1000) (hb : ∀ x ∈ l, Byt x) (H : MadeY base w (.slice (some ⟨g, 0, none⟩) m cap) l) : Calls Try.prog 59 #[.slice (some ⟨g, 0, none⟩) m cap] w fun e w' => e = .returned (.int .i64 (sumL l)) ∧ w' = w := by
  have e : crcV l.length (nthI l) = sumL l := by unfold crcV sumL; rw [if_pos hl]
  obtain ⟨rfl, O⟩ := madeY_fin H
  rw [← e]
  exact implCrc_any (some ⟨g, 0, none⟩) l.length cap (nthI l) w (nth_byt hb) O.row
set_option maxRecDepth 20000 in
set_option maxHeartbeats 4000000 in
theorem implWrite_any (t q : Int) (s : Option Addr) (n c : Nat) (V : Nat → Int) (w : World) (hn0 : (n : Int) ≤ 1048576) (HR : Hid (RowI w s n V)) :
    Calls Try.prog 31 #[.agg #[.int .i64 t, .int .i64 q, .slice s n c]] w fun e w' => ∃ s' c', e = .returned (.slice s' (wrL t q n V).length c') ∧ OwnY w.heap.size w' s' (wrL t q n V).length (nthI (wrL t q n V)) ∧ Below w.heap.size w w' := by
  go_enter Try.func31, Try.ntmps31
  go_wp2_with fail
  refine (frameRight_any t q s n c V _ hn0 (row_1 HR.out)).mono ?_
  rintro e w1 ⟨rfl, h1⟩
  obtain ⟨hc, hf⟩ := bcell h1
  have q0 := hc w.heap.size 0 (by first | omega | (simp; done) | (simp; omega))
  have q1 := hc w.heap.size 1 (by first | omega | (simp; done) | (simp; omega))
  have q2 := hc w.heap.size 2 (by first | omega | (simp; done) | (simp; omega))
  simp [go_sem] at q0 q1 q2
  have z1 : w.heap.size < w1.heap.size := by have := h1.size; simp at this; omega
  have B1 : Below w.heap.size w w1 := Below.trans (by repeat (first | with_reducible exact Below.refl _ _ | with_reducible refine Below.setCell ?_ (by first | omega | (simp; done) | (simp; omega)) _ | with_reducible refine bDrewN ?_ _ | with_reducible refine Below.drew ?_ | with_reducible refine Below.alloc ?_ (by first | omega | (simp; done) | (simp; omega)) _)) (h1.mono (by first | omega | (simp; done) | (simp; omega)))
  have R1 : Hid (RowI w1 s n V) := HR.out.below B1
  clear hc hf h1
  cases k0 : frameB t q n V
  · have HW : Hid (wrL t q n V = []) := show wrL t q n V = [] by unfold wrL; simp [k0]
    go_wp2
    exact bodyPost_ret (v := .slice none 0 0) (by simp [results, Try.results31, go_sem]) rfl ⟨none, 0, by rw [HW.out]; rfl, by rw [HW.out]; exact fun j hj => absurd hj (Nat.not_lt_zero j), (by repeat (first | with_reducible exact Below.refl _ _ | with_reducible exact B1 | with_reducible refine Below.setCell ?_ (by first | omega | (simp; done) | (simp; omega)) _ | with_reducible refine bDrewN ?_ _ | with_reducible refine Below.drew ?_ | with_reducible refine Below.alloc ?_ (by first | omega | (simp; done) | (simp; omega)) _))⟩
  have HW : Hid (wrL t q n V = wholeL t q n V) := show wrL t q n V = _ by unfold wrL; simp [k0]
  obtain ⟨⟨t0, t1⟩, ⟨m0, m1⟩, hn, hV⟩ := frame_parts k0
  have HV : Hid (∀ j, j < n → 0 ≤ V j ∧ V j ≤ 65535) := hV
  clear k0 hV
  go_wp2_with fail
  refine (wordOf_any q _ m0 m1).mono ?_
  rintro e w2 ⟨rfl, h2⟩
  have Q1 : Hid (w1.cell? ⟨w.heap.size, 2, none⟩ = some (.slice s n c)) := q2
  replace q0 := (h2.cell (p := ⟨w.heap.size, 0, none⟩) z1).trans q0
  replace q1 := (h2.cell (p := ⟨w.heap.size, 1, none⟩) z1).trans q1
  replace q2 := (h2.cell (p := ⟨w.heap.size, 2, none⟩) z1).trans q2
  have s2 := h2.size
  have z2 : w.heap.size < w2.heap.size := by omega
  have B2 : Below w1.heap.size w1 w2 := h2
  clear h2
  go_wp2_with (first | (refine list_bytes w1.heap.size _ [] [165, t, q / 256, q % 256, (n : Int)] (w2.heap.size + 1) 5 5 _ _ (by rfl) (by rfl) (by rfl) (by rfl) rfl (by decide) (madeY_none _ (by simp) (by omega)) (by simp; omega) (by simp) (by decide) (five_get (by first | (simp; done) | (simp [go_sem]; done)) (by first | (simp; done) | (simp [go_sem]; done)) (by first | (simp; done) | (simp [go_sem]; done)) (by first | (simp; done) | (simp [go_sem]; done)) (by first | (simp; done) | (simp [go_sem]; done))) ?_; intro g3 k3 cap3 w3 M3 h3; have B3 : Below w1.heap.size w1 w3 := Below.trans B2 (Below.trans (Below.mono (B := w2.heap.size) (by repeat (first | with_reducible exact Below.refl _ _ | with_reducible refine Below.setCell ?_ (by first | omega | (simp; done) | (simp; omega)) _ | with_reducible refine bDrewN ?_ _ | with_reducible refine Below.drew ?_ | with_reducible refine Below.alloc ?_ (by first | omega | (simp; done) | (simp; omega)) _)) s2) h3); clear q0 q1 q2; have q2 := (B3.cell (p := ⟨w.heap.size, 2, none⟩) z1).trans (Q1.out); have H3 : Hid (MadeY w1.heap.size w3 (.slice (some ⟨g3, 0, none⟩) k3 cap3) (bodyL t q n V 0)) := M3; have HB3 : Hid (Below w1.heap.size w1 w3) := B3; clear M3 h3))
  go_loopw [5, 32] (fun v i wr => ∃ k g m cap, k ≤ n ∧ i = .int .i64 k ∧ v = .slice (some ⟨g, 0, none⟩) m cap ∧ MadeY w1.heap.size wr (.slice (some ⟨g, 0, none⟩) m cap) (bodyL t q n V k) ∧ Below w1.heap.size w1 wr) (fun _ i _ => n - (intOf i).toNat)
  case atStart => exact ⟨0, g3, k3, cap3, Nat.zero_le _, rfl, rfl, H3.out, HB3.out⟩
  case round =>
    obtain ⟨k, g4, k4, cap4, hk, rfl, rfl, M4, B4⟩ := hrel
    clear q2 B2 B3 s2 z2
    have H4 : Hid (MadeY w1.heap.size wr (.slice (some ⟨g4, 0, none⟩) k4 cap4) (bodyL t q n V k)) := M4
    have HB4 : Hid (Below w1.heap.size w1 wr) := B4
    have s4 := B4.size
    have hl := bodyL_len t q n V k
    clear M4
    by_cases hlt : k < n
    · obtain ⟨y, o, rfl, hg, c0⟩ := HR.out k hlt
      have d0 : wr.cell? ⟨y, o + k, none⟩ = some (.int .i64 (V k)) := ((B4.mono (Nat.le_of_lt z1)).cell (p := ⟨y, o + k, none⟩) hg).trans ((B1.cell (p := ⟨y, o + k, none⟩) hg).trans c0)
      have k1 : (k : Int) < (n : Int) := by omega
      have hv := HV.out k hlt
      clear c0 B4
      go_wp2_with fail
      refine (withWord_any w1.heap.size _ (bodyL t q n V k) (V k) _ hv (by first | omega | (simp; done) | (simp; omega)) (by omega) H4.out).mono ?_
      rintro e w5 ⟨g5, k5, cap5, rfl, M5, h5⟩
      rw [bodyL_on] at M5
      have H5 : Hid (MadeY w1.heap.size w5 (.slice (some ⟨g5, 0, none⟩) k5 cap5) (bodyL t q n V (k + 1))) := M5
      have HB5 : Hid (Below w1.heap.size w1 w5) := HB4.out.trans h5
      clear M5 h5
      go_wp2
      go_roundw
      case rel => exact ⟨k + 1, g5, k5, cap5, by omega, by go_num, rfl, H5.out, HB5.out⟩
      case measure => simp [intOf]; omega
    · obtain rfl : k = n := by omega
      have hbt := bodyL_byt k ⟨t0, t1⟩ ⟨m0, m1⟩ hn HV.out
      have HS : Hid (0 ≤ sumL (bodyL t q k V k) ∧ sumL (bodyL t q k V k) ≤ 65535) := sumL_lt hbt
      have HT : Hid (∀ x ∈ bodyL t q k V k, Byt x) := hbt
      clear hbt
      go_wp2_with fail
      refine (implSum_any w1.heap.size g4 k4 cap4 (bodyL t q k V k) _ (by omega) HT.out H4.out).mono ?_
      rintro e w6 ⟨rfl, rfl⟩
      go_wp2_with fail
      refine (withWord_any w1.heap.size _ (bodyL t q k V k) _ _ HS.out (by first | omega | (simp; done) | (simp; omega)) (by omega) H4.out).mono ?_
      rintro e w7 ⟨g7, k7, cap7, rfl, M7, h7⟩
      rw [whole_is] at M7
      have H7 : Hid (k7 = (wrL t q k V).length ∧ OwnY w1.heap.size w7 (some ⟨g7, 0, none⟩) (wrL t q k V).length (nthI (wrL t q k V))) := by rw [HW.out]; exact madeY_fin M7
      have B7 : Below w.heap.size w w7 := B1.trans ((HB4.out.trans h7).mono B1.size)
      clear M7 h7
      go_wp2
      go_ret
      exact ⟨some ⟨g7, 0, none⟩, cap7, ret_sl H7.out.1, H7.out.2.mono B1.size, B7⟩
end Go.Proofs.Ytkocbklkiehdiaa
