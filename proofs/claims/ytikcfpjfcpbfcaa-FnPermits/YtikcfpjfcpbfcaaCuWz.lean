/-
What is proved: spec.l22Wet wets what the passes over the ducts wet.
-/
import Derived.Test.YtikcfpjfcpbfcaaCuFz
import Derived.BigQuiet
namespace Go.Proofs.Ytikcfpjfcpbfcaa
set_option maxRecDepth 40000
open Go.ChangeShapes Go.WideShapes Go.ChangeAt Go.RowKit
set_option linter.unusedVariables false
set_option linter.unusedSimpArgs false

theorem net_at {w wr : World} {P : Nat} {s : Option Addr} {n c : Nat} {t : Option Addr} {m d : Nat} (h : Below (w.alloc (.cells #[.int .i64 (P : Int), .slice s n c, .slice t m d] 41)).heap.size (w.alloc (.cells #[.int .i64 (P : Int), .slice s n c, .slice t m d] 41)) wr) : wr.cell? ⟨w.heap.size, 0, none⟩ = some (.int .i64 (P : Int)) ∧ wr.cell? ⟨w.heap.size, 1, none⟩ = some (.slice s n c) ∧ wr.cell? ⟨w.heap.size, 2, none⟩ = some (.slice t m d) ∧ w.heap.size < wr.heap.size ∧ Below w.heap.size w wr := by
  have z := h.size
  simp at z
  exact ⟨(h.cell (p := ⟨w.heap.size, 0, none⟩) (by simp)).trans (by simp [go_sem]), (h.cell (p := ⟨w.heap.size, 1, none⟩) (by simp)).trans (by simp [go_sem]), (h.cell (p := ⟨w.heap.size, 2, none⟩) (by simp)).trans (by simp [go_sem]), by omega, (below0 w _).trans (h.mono (by simp))⟩
set_option maxRecDepth 20000 in
set_option maxHeartbeats 2000000 in
theorem l22Wet_any (P : Nat) (s : Option Addr) (n c : Nat) (D : Nat → Int × Int) (t : Option Addr) (m d : Nat) (S : Nat → Int) (u : Option Addr) (cu : Nat) (Sh : Nat → Bool) (w : World) (hp : P ≤ 30) (hn : (n : Int) ≤ 40) (hm : (m : Int) ≤ 1048576) (HD : Hid (RowDuct w s n D)) (HS : Hid (RowI w t m S)) (HU : Hid (RowB w u n Sh))
    (HE : Hid (∀ j, j < n → (0 ≤ (D j).1 ∧ (D j).1 ≤ (P : Int) - 1) ∧ 0 ≤ (D j).2 ∧ (D j).2 ≤ (P : Int) - 1)) (HI : Hid (∀ j, j < m → 0 ≤ S j ∧ S j ≤ (P : Int) - 1)) :
    Calls Try.prog 86 #[.agg #[.int .i64 (P : Int), .slice s n c, .slice t m d], .slice u n cu] w fun e w' => ∃ b, e = .returned (.slice (some ⟨b, 0, none⟩) P P) ∧ FlB w w' b P (wetW n D Sh (hasW S m) P) := by
  have hmk := make_bool P (by omega)
  go_enter Try.func86, Try.ntmps86
  go_wp2_with fail
  go_loopw [6] (fun i wr => ∃ k : Nat, k ≤ m ∧ i = .int .i64 k ∧ Hid (FlB (w.alloc (.cells #[.int .i64 (P : Int), .slice s n c, .slice t m d] 41)) wr (w.heap.size + 1) P (hasW S k))) (fun i _ => m - (intOf i).toNat)
  case atStart => exact ⟨0, Nat.zero_le _, rfl, fl_made (by repeat (first | with_reducible exact Below.refl _ _ | with_reducible refine Below.setCell ?_ (by first | omega | (simp; done) | (simp; omega)) _ | with_reducible refine bDrewN ?_ _ | with_reducible refine Below.drew ?_ | with_reducible refine Below.alloc ?_ (by first | omega | (simp; done) | (simp; omega)) _)) (by simp) (fun j => rfl)⟩
  case round =>
    obtain ⟨k, hk, rfl, HF⟩ := hrel
    obtain ⟨n0, n1, n2, zn, hB⟩ := net_at HF.out.1
    have zW := hB.size
    obtain ⟨-, -, zb, hf, hc⟩ := HF.out
    by_cases h1 : k < m
    · obtain ⟨g, o, rfl, hg, c0⟩ := HS.out k h1
      have d0 : wr.cell? ⟨g, o + k, none⟩ = some (.int .i64 (S k)) := (hB.cell (p := ⟨g, o + k, none⟩) hg).trans c0
      have k1 : (k : Int) < (m : Int) := by omega
      obtain ⟨y0, y1⟩ := HI.out k h1
      obtain ⟨x, hx⟩ : ∃ x : Nat, S k = (x : Int) := ⟨(S k).toNat, by omega⟩
      rw [hx] at d0 y1
      have HY : Hid (S k = (x : Int)) := hx
      have xn : (x : Int) < (P : Int) := by omega
      have bx := hc x (by omega)
      have bf := hf x
      have HG : Hid (FlB (w.alloc (.cells #[.int .i64 (P : Int), .slice s n c, .slice (some ⟨g, o, none⟩) m d] 41)) (wr.setCell ⟨w.heap.size + 1, x, none⟩ (.bool true)) (w.heap.size + 1) P (hasW S (k + 1))) := HF.out.set (by omega) fun j hj => by
        rw [hasW_succ, HY.out]
        by_cases e : j = x
        · subst e; simp
        · rw [if_neg e, decide_eq_false (by omega)]; simp
      clear hc hf c0 hx y0 y1
      go_wp2
      go_roundw
      case rel => exact ⟨k + 1, by omega, by go_num, HG.out⟩
      case measure => first | (simp [intOf]; done) | (simp [intOf]; omega)
    · obtain rfl : k = m := by omega
      rename World => w5
      clear zb hf hc hk
      go_wp2_with fail
      clear n0 n1 n2 zn hB zW
      go_loopw [7] (fun i wr => ∃ q : Nat, q ≤ P ∧ i = .int .i64 q ∧ Hid (FlB (w.alloc (.cells #[.int .i64 (P : Int), .slice s n c, .slice t k d] 41)) wr (w.heap.size + 1) P (wetW n D Sh (hasW S k) q))) (fun i _ => P - (intOf i).toNat)
      case atStart => exact ⟨0, Nat.zero_le _, rfl, HF.out⟩
      case round =>
        obtain ⟨q, hq, rfl, HQ⟩ := hrel
        obtain ⟨n0, n1, n2, zn, hB⟩ := net_at HQ.out.1
        have zW := hB.size
        by_cases h2 : q < P
        case neg =>
          obtain rfl : q = P := by omega
          have HG := HQ.out
          go_wp2
          go_ret
          exact ⟨_, rfl, hB, by omega, HQ.out.2.2.1, HQ.out.2.2.2.1, HQ.out.2.2.2.2⟩
        have q1 : (q : Int) < (P : Int) := by omega
        rename World => w6
        go_wp2_with fail
        go_loopw [8] (fun i wr => ∃ r : Nat, r ≤ n ∧ i = .int .i64 r ∧ Hid (FlB (w.alloc (.cells #[.int .i64 (P : Int), .slice s n c, .slice t k d] 41)) wr (w.heap.size + 1) P (passW D Sh r (wetW n D Sh (hasW S k) q)))) (fun i _ => n - (intOf i).toNat)
        case atStart => exact ⟨0, Nat.zero_le _, rfl, HQ.out⟩
        case round =>
          clear n0 n1 n2 zn hB zW
          obtain ⟨r, hr, rfl, HR⟩ := hrel
          obtain ⟨n0, n1, n2, zn, hB⟩ := net_at HR.out.1
          have zW := hB.size
          obtain ⟨-, -, zb, hf, hc⟩ := HR.out
          by_cases h3 : r < n
          case neg =>
            obtain rfl : r = n := by omega
            clear hf hc
            go_wp2
            go_roundw
            case rel => exact ⟨q + 1, by omega, by go_num, HR.out⟩
            case measure => first | (simp [intOf]; done) | (simp [intOf]; omega)
          obtain ⟨g, o, rfl, hg, c0, c1⟩ := HD.out r h3
          replace c0 := (hB.cell (p := ⟨g, o + r * 2, none⟩) hg).trans c0
          replace c1 := (hB.cell (p := ⟨g, o + r * 2 + 1, none⟩) hg).trans c1
          obtain ⟨gu, ou, rfl, hgu, c2⟩ := HU.out r h3
          replace c2 := (hB.cell (p := ⟨gu, ou + r, none⟩) hgu).trans c2
          obtain ⟨⟨a0, a1⟩, b0, b1⟩ := HE.out r h3
          obtain ⟨a, ha⟩ : ∃ a : Nat, (D r).1 = (a : Int) := ⟨(D r).1.toNat, by omega⟩
          obtain ⟨b, hb⟩ : ∃ b : Nat, (D r).2 = (b : Int) := ⟨(D r).2.toNat, by omega⟩
          rw [ha] at c0 a1
          rw [hb] at c1 b1
          have HA : Hid (endA D r = a ∧ endB D r = b) := by show _ ∧ _; unfold endA endB; rw [ha, hb]; simp
          clear ha hb a0 b0
          have an : (a : Int) < (P : Int) := by omega
          have bn : (b : Int) < (P : Int) := by omega
          have za : g < wr.heap.size := Nat.lt_of_lt_of_le hg hB.size
          have zu : gu < wr.heap.size := Nat.lt_of_lt_of_le hgu hB.size
          have r1 : (r : Int) < (n : Int) := by omega
          have xa := hc a (by omega)
          have xb := hc b (by omega)
          have fa := hf a
          have fb := hf b
          obtain ⟨U, hU⟩ : ∃ U, passW D Sh r (wetW n D Sh (hasW S k) q) = U := ⟨_, rfl⟩
          rw [hU] at xa xb
          have HP : Hid (passW D Sh (r + 1) (wetW n D Sh (hasW S k) q) = stepW U a b (Sh r)) := by show stepW _ _ _ _ = _; rw [hU, HA.out.1, HA.out.2]
          have HR2 : Hid (FlB (w.alloc (.cells #[.int .i64 (P : Int), .slice (some ⟨g, o, none⟩) n c, .slice t k d] 41)) wr (w.heap.size + 1) P U) := by show FlB _ _ _ _ _; rw [← hU]; exact HR.out
          obtain ⟨sh, hsh⟩ : ∃ sh, Sh r = sh := ⟨_, rfl⟩
          obtain ⟨ua, hua⟩ : ∃ x, U a = x := ⟨_, rfl⟩
          obtain ⟨ub, hub⟩ : ∃ x, U b = x := ⟨_, rfl⟩
          rw [hsh] at c2
          rw [hua] at xa
          rw [hub] at xb
          have HX : Hid (Sh r = sh ∧ U a = ua ∧ U b = ub) := ⟨hsh, hua, hub⟩
          clear hU HR hf hc hsh hua hub hg hgu
          by_cases gd : (!sh && (ua != ub)) = true
          · have HG : Hid (∀ w3, Below wr.heap.size wr w3 → FlB (w.alloc (.cells #[.int .i64 (P : Int), .slice (some ⟨g, o, none⟩) n c, .slice t k d] 41)) ((w3.setCell ⟨w.heap.size + 1, a, none⟩ (.bool true)).setCell ⟨w.heap.size + 1, b, none⟩ (.bool true)) (w.heap.size + 1) P (passW D Sh (r + 1) (wetW n D Sh (hasW S k) q))) := fun w3 h3 =>
              FlB.set (F := fun j => if j = a then true else U j) ((HR2.out.keep h3).set (by omega) fun j hj => rfl) (by omega) fun j hj => by
                rw [HP.out]; unfold stepW; rw [HX.out.1, HX.out.2.1, HX.out.2.2, if_pos gd]
                by_cases e1 : j = b
                · simp [e1]
                · by_cases e2 : j = a
                  · simp [e2]
                  · simp [e1, e2]
            simp only [Bool.and_eq_true, Bool.not_eq_true', bne_iff_ne, ne_eq] at gd
            obtain ⟨rfl, gu2⟩ := gd
            have ab : ¬ b = a := fun e => gu2 (by rw [← HX.out.2.1, ← HX.out.2.2, e])
            have ba : ¬ a = b := fun e => ab e.symm
            have gv : (ua != ub) = true := by simpa using gu2
            have gw : (ua == ub) = false := by simpa using gu2
            clear gu2
            go_wp2_with fail
            go_quiet (fail)
            go_wp2
            go_roundw
            case rel => exact ⟨r + 1, by omega, by go_num, HG.out _ (by repeat (first | with_reducible exact Below.refl _ _ | with_reducible refine Below.setCell ?_ (by first | omega | (simp; done) | (simp; omega)) _ | with_reducible refine bDrewN ?_ _ | with_reducible refine Below.drew ?_ | with_reducible refine Below.alloc ?_ (by first | omega | (simp; done) | (simp; omega)) _))⟩
            case measure => first | (simp [intOf]; done) | (simp [intOf]; omega)
          · have HG : Hid (FlB (w.alloc (.cells #[.int .i64 (P : Int), .slice (some ⟨g, o, none⟩) n c, .slice t k d] 41)) wr (w.heap.size + 1) P (passW D Sh (r + 1) (wetW n D Sh (hasW S k) q))) := by
              show FlB _ _ _ _ _
              rw [HP.out]; unfold stepW; rw [HX.out.1, HX.out.2.1, HX.out.2.2, if_neg gd]; exact HR2.out
            cases sh
            · have gv : (ua != ub) = false := by simpa using gd
              have gw : (ua == ub) = true := by simpa using gd
              clear gd
              go_wp2_with fail
              go_quiet (fail)
              go_wp2
              go_roundw
              case rel => exact ⟨r + 1, by omega, by go_num, HG.out.keep (by repeat (first | with_reducible exact Below.refl _ _ | with_reducible refine Below.setCell ?_ (by first | omega | (simp; done) | (simp; omega)) _ | with_reducible refine bDrewN ?_ _ | with_reducible refine Below.drew ?_ | with_reducible refine Below.alloc ?_ (by first | omega | (simp; done) | (simp; omega)) _))⟩
              case measure => first | (simp [intOf]; done) | (simp [intOf]; omega)
            · clear gd
              go_wp2_with fail
              go_quiet (fail)
              go_wp2
              go_roundw
              case rel => exact ⟨r + 1, by omega, by go_num, HG.out.keep (by repeat (first | with_reducible exact Below.refl _ _ | with_reducible refine Below.setCell ?_ (by first | omega | (simp; done) | (simp; omega)) _ | with_reducible refine bDrewN ?_ _ | with_reducible refine Below.drew ?_ | with_reducible refine Below.alloc ?_ (by first | omega | (simp; done) | (simp; omega)) _))⟩
              case measure => first | (simp [intOf]; done) | (simp [intOf]; omega)
end Go.Proofs.Ytikcfpjfcpbfcaa
