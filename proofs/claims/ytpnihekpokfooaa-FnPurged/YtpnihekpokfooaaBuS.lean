/-
What is proved: a burner's step, as the specification takes it.
-/
import Derived.Test.YtpnihekpokfooaaBuO
namespace Go.Proofs.Ytpnihekpokfooaa
set_option maxRecDepth 40000
open Go.RowKit
set_option linter.unusedVariables false
set_option linter.unusedSimpArgs false

set_option maxHeartbeats 800000 in
theorem l15Lock_any (s t r : Int) (w : World) : Calls Try.prog 51 #[.agg #[.int .i64 s, .int .i64 t, .int .i64 r]] w fun e w' => e = .returned (.agg #[.int .i64 4, .int .i64 0, .int .i64 r]) ∧ Below w.heap.size w w' := by
  go_enter Try.func51, Try.ntmps51
  go_wp2
  exact bodyPost_ret (v := .agg #[.int .i64 4, .int .i64 0, .int .i64 r]) (by simp [results, Try.results51, go_sem]) rfl ⟨rfl, (by repeat (first | with_reducible exact Below.refl _ _ | with_reducible refine Below.setCell ?_ (by first | omega | (simp; done) | (simp; omega)) _ | with_reducible refine bDrewN ?_ _ | with_reducible refine Below.drew ?_ | with_reducible refine Below.alloc ?_ (by first | omega | (simp; done) | (simp; omega)) _))⟩
set_option maxHeartbeats 8000000 in
theorem nextS_off (air gas fl st sp rs : Bool) (w : World) : Calls Try.prog 35 #[.agg #[.int .i64 0, .int .i64 0, .int .i64 0], .agg #[.bool air, .bool gas, .bool fl, .bool st, .bool sp, .bool rs]] w fun e w' => e = .returned (.agg #[.int .i64 (nextV 0 0 0 air gas fl st sp rs).1, .int .i64 (nextV 0 0 0 air gas fl st sp rs).2.1, .int .i64 (nextV 0 0 0 air gas fl st sp rs).2.2]) ∧ Below w.heap.size w w' := by
  go_enter Try.func35, Try.ntmps35
  cases sp
  case false =>
    cases fl
    case false =>
      cases st
      case false =>
        have HN : Hid (nextV 0 0 0 air gas false false false rs = (0, 0, 0)) := show nextV 0 0 0 air gas false false false rs = (0, 0, 0) by simp [nextV]
        go_wp2
        exact bodyPost_ret (v := .agg #[.int .i64 0, .int .i64 0, .int .i64 0]) (by simp [results, Try.results35, go_sem]) rfl ⟨by rw [HN.out], (by repeat (first | with_reducible exact Below.refl _ _ | with_reducible refine Below.setCell ?_ (by first | omega | (simp; done) | (simp; omega)) _ | with_reducible refine bDrewN ?_ _ | with_reducible refine Below.drew ?_ | with_reducible refine Below.alloc ?_ (by first | omega | (simp; done) | (simp; omega)) _))⟩
      case true =>
        have HN : Hid (nextV 0 0 0 air gas false true false rs = (1, 0, 0)) := show nextV 0 0 0 air gas false true false rs = (1, 0, 0) by simp [nextV]
        go_wp2
        exact bodyPost_ret (v := .agg #[.int .i64 1, .int .i64 0, .int .i64 0]) (by simp [results, Try.results35, go_sem]) rfl ⟨by rw [HN.out], (by repeat (first | with_reducible exact Below.refl _ _ | with_reducible refine Below.setCell ?_ (by first | omega | (simp; done) | (simp; omega)) _ | with_reducible refine bDrewN ?_ _ | with_reducible refine Below.drew ?_ | with_reducible refine Below.alloc ?_ (by first | omega | (simp; done) | (simp; omega)) _))⟩
    case true =>
      have HN : Hid (nextV 0 0 0 air gas true st false rs = (4, 0, 0)) := show nextV 0 0 0 air gas true st false rs = (4, 0, 0) by simp [nextV]
      go_wp2_with fail
      refine (l15Lock_any _ _ _ _).mono ?_
      rintro e w1 ⟨rfl, h1⟩
      obtain ⟨hc, hf⟩ := bcell h1
      have q0 := hc (w.heap.size + 1 + 1) 0 (by first | omega | (simp; done) | (simp; omega))
      have f0 := hf (w.heap.size + 1 + 1) 0 (by first | omega | (simp; done) | (simp; omega))
      have q1 := hc (w.heap.size + 1 + 1) 1 (by first | omega | (simp; done) | (simp; omega))
      have f1 := hf (w.heap.size + 1 + 1) 1 (by first | omega | (simp; done) | (simp; omega))
      have q2 := hc (w.heap.size + 1 + 1) 2 (by first | omega | (simp; done) | (simp; omega))
      have f2 := hf (w.heap.size + 1 + 1) 2 (by first | omega | (simp; done) | (simp; omega))
      simp [go_sem] at q0 q1 q2 f0 f1 f2
      have z1 : w.heap.size + 1 + 1 < w1.heap.size := by have := h1.size; simp at this; omega
      have B1 : Below w.heap.size w w1 := Below.trans (by repeat (first | with_reducible exact Below.refl _ _ | with_reducible refine Below.setCell ?_ (by first | omega | (simp; done) | (simp; omega)) _ | with_reducible refine bDrewN ?_ _ | with_reducible refine Below.drew ?_ | with_reducible refine Below.alloc ?_ (by first | omega | (simp; done) | (simp; omega)) _)) (h1.mono (by first | omega | (simp; done) | (simp; omega)))
      clear hc hf h1
      go_wp2
      exact bodyPost_ret (v := .agg #[.int .i64 4, .int .i64 0, .int .i64 0]) (by simp [results, Try.results35, go_sem, q0, q1, q2]) rfl ⟨by rw [HN.out], (by repeat (first | with_reducible exact Below.refl _ _ | with_reducible exact B1 | with_reducible refine Below.setCell ?_ (by first | omega | (simp; done) | (simp; omega)) _ | with_reducible refine bDrewN ?_ _ | with_reducible refine Below.drew ?_ | with_reducible refine Below.alloc ?_ (by first | omega | (simp; done) | (simp; omega)) _))⟩
  case true =>
    have HN : Hid (nextV 0 0 0 air gas fl st true rs = (0, 0, 0)) := show nextV 0 0 0 air gas fl st true rs = (0, 0, 0) by simp [nextV]
    go_wp2
    exact bodyPost_ret (v := .agg #[.int .i64 0, .int .i64 0, .int .i64 0]) (by simp [results, Try.results35, go_sem]) rfl ⟨by rw [HN.out], (by repeat (first | with_reducible exact Below.refl _ _ | with_reducible refine Below.setCell ?_ (by first | omega | (simp; done) | (simp; omega)) _ | with_reducible refine bDrewN ?_ _ | with_reducible refine Below.drew ?_ | with_reducible refine Below.alloc ?_ (by first | omega | (simp; done) | (simp; omega)) _))⟩
set_option maxHeartbeats 8000000 in
theorem nextS_purge (t r : Int) (air gas fl st sp rs : Bool) (w : World) (t0 : 0 ≤ t) (t1 : t ≤ 4) : Calls Try.prog 35 #[.agg #[.int .i64 1, .int .i64 t, .int .i64 r], .agg #[.bool air, .bool gas, .bool fl, .bool st, .bool sp, .bool rs]] w fun e w' => e = .returned (.agg #[.int .i64 (nextV 1 t r air gas fl st sp rs).1, .int .i64 (nextV 1 t r air gas fl st sp rs).2.1, .int .i64 (nextV 1 t r air gas fl st sp rs).2.2]) ∧ Below w.heap.size w w' := by
  go_enter Try.func35, Try.ntmps35
  cases sp
  case false =>
    cases fl
    case false =>
      cases air
      case false =>
        have HN : Hid (nextV 1 t r false gas false st false rs = (1, 0, r)) := show nextV 1 t r false gas false st false rs = (1, 0, r) by simp [nextV]
        go_wp2
        exact bodyPost_ret (v := .agg #[.int .i64 1, .int .i64 0, .int .i64 r]) (by simp [results, Try.results35, go_sem]) rfl ⟨by rw [HN.out], (by repeat (first | with_reducible exact Below.refl _ _ | with_reducible refine Below.setCell ?_ (by first | omega | (simp; done) | (simp; omega)) _ | with_reducible refine bDrewN ?_ _ | with_reducible refine Below.drew ?_ | with_reducible refine Below.alloc ?_ (by first | omega | (simp; done) | (simp; omega)) _))⟩
      case true =>
        by_cases q : t < 4
        case pos =>
          have HN : Hid (nextV 1 t r true gas false st false rs = (1, t + 1, r)) := show nextV 1 t r true gas false st false rs = (1, t + 1, r) by simp [nextV, q]
          go_wp2
          exact bodyPost_ret (v := .agg #[.int .i64 1, .int .i64 (t + 1), .int .i64 r]) (by simp [results, Try.results35, go_sem]) rfl ⟨by rw [HN.out], (by repeat (first | with_reducible exact Below.refl _ _ | with_reducible refine Below.setCell ?_ (by first | omega | (simp; done) | (simp; omega)) _ | with_reducible refine bDrewN ?_ _ | with_reducible refine Below.drew ?_ | with_reducible refine Below.alloc ?_ (by first | omega | (simp; done) | (simp; omega)) _))⟩
        case neg =>
          cases gas
          case false =>
            have HN : Hid (nextV 1 t r true false false st false rs = (1, t, r)) := show nextV 1 t r true false false st false rs = (1, t, r) by simp [nextV, q]
            go_wp2
            exact bodyPost_ret (v := .agg #[.int .i64 1, .int .i64 t, .int .i64 r]) (by simp [results, Try.results35, go_sem]) rfl ⟨by rw [HN.out], (by repeat (first | with_reducible exact Below.refl _ _ | with_reducible refine Below.setCell ?_ (by first | omega | (simp; done) | (simp; omega)) _ | with_reducible refine bDrewN ?_ _ | with_reducible refine Below.drew ?_ | with_reducible refine Below.alloc ?_ (by first | omega | (simp; done) | (simp; omega)) _))⟩
          case true =>
            have HN : Hid (nextV 1 t r true true false st false rs = (2, 0, r)) := show nextV 1 t r true true false st false rs = (2, 0, r) by simp [nextV, q]
            go_wp2
            exact bodyPost_ret (v := .agg #[.int .i64 2, .int .i64 0, .int .i64 r]) (by simp [results, Try.results35, go_sem]) rfl ⟨by rw [HN.out], (by repeat (first | with_reducible exact Below.refl _ _ | with_reducible refine Below.setCell ?_ (by first | omega | (simp; done) | (simp; omega)) _ | with_reducible refine bDrewN ?_ _ | with_reducible refine Below.drew ?_ | with_reducible refine Below.alloc ?_ (by first | omega | (simp; done) | (simp; omega)) _))⟩
    case true =>
      have HN : Hid (nextV 1 t r air gas true st false rs = (4, 0, r)) := show nextV 1 t r air gas true st false rs = (4, 0, r) by simp [nextV]
      go_wp2_with fail
      refine (l15Lock_any _ _ _ _).mono ?_
      rintro e w1 ⟨rfl, h1⟩
      obtain ⟨hc, hf⟩ := bcell h1
      have q0 := hc (w.heap.size + 1 + 1) 0 (by first | omega | (simp; done) | (simp; omega))
      have f0 := hf (w.heap.size + 1 + 1) 0 (by first | omega | (simp; done) | (simp; omega))
      have q1 := hc (w.heap.size + 1 + 1) 1 (by first | omega | (simp; done) | (simp; omega))
      have f1 := hf (w.heap.size + 1 + 1) 1 (by first | omega | (simp; done) | (simp; omega))
      have q2 := hc (w.heap.size + 1 + 1) 2 (by first | omega | (simp; done) | (simp; omega))
      have f2 := hf (w.heap.size + 1 + 1) 2 (by first | omega | (simp; done) | (simp; omega))
      simp [go_sem] at q0 q1 q2 f0 f1 f2
      have z1 : w.heap.size + 1 + 1 < w1.heap.size := by have := h1.size; simp at this; omega
      have B1 : Below w.heap.size w w1 := Below.trans (by repeat (first | with_reducible exact Below.refl _ _ | with_reducible refine Below.setCell ?_ (by first | omega | (simp; done) | (simp; omega)) _ | with_reducible refine bDrewN ?_ _ | with_reducible refine Below.drew ?_ | with_reducible refine Below.alloc ?_ (by first | omega | (simp; done) | (simp; omega)) _)) (h1.mono (by first | omega | (simp; done) | (simp; omega)))
      clear hc hf h1
      go_wp2
      exact bodyPost_ret (v := .agg #[.int .i64 4, .int .i64 0, .int .i64 r]) (by simp [results, Try.results35, go_sem, q0, q1, q2]) rfl ⟨by rw [HN.out], (by repeat (first | with_reducible exact Below.refl _ _ | with_reducible exact B1 | with_reducible refine Below.setCell ?_ (by first | omega | (simp; done) | (simp; omega)) _ | with_reducible refine bDrewN ?_ _ | with_reducible refine Below.drew ?_ | with_reducible refine Below.alloc ?_ (by first | omega | (simp; done) | (simp; omega)) _))⟩
  case true =>
    have HN : Hid (nextV 1 t r air gas fl st true rs = (0, 0, 0)) := show nextV 1 t r air gas fl st true rs = (0, 0, 0) by simp [nextV]
    go_wp2
    exact bodyPost_ret (v := .agg #[.int .i64 0, .int .i64 0, .int .i64 0]) (by simp [results, Try.results35, go_sem]) rfl ⟨by rw [HN.out], (by repeat (first | with_reducible exact Below.refl _ _ | with_reducible refine Below.setCell ?_ (by first | omega | (simp; done) | (simp; omega)) _ | with_reducible refine bDrewN ?_ _ | with_reducible refine Below.drew ?_ | with_reducible refine Below.alloc ?_ (by first | omega | (simp; done) | (simp; omega)) _))⟩
set_option maxHeartbeats 8000000 in
theorem nextS_light (t r : Int) (air gas fl st sp rs : Bool) (w : World) (t0 : 0 ≤ t) (t1 : t ≤ 2) (r0 : 0 ≤ r) (r1 : r ≤ 2) : Calls Try.prog 35 #[.agg #[.int .i64 2, .int .i64 t, .int .i64 r], .agg #[.bool air, .bool gas, .bool fl, .bool st, .bool sp, .bool rs]] w fun e w' => e = .returned (.agg #[.int .i64 (nextV 2 t r air gas fl st sp rs).1, .int .i64 (nextV 2 t r air gas fl st sp rs).2.1, .int .i64 (nextV 2 t r air gas fl st sp rs).2.2]) ∧ Below w.heap.size w w' := by
  go_enter Try.func35, Try.ntmps35
  cases sp
  case false =>
    cases air
    case false =>
      have HN : Hid (nextV 2 t r false gas fl st false rs = (4, 0, r)) := show nextV 2 t r false gas fl st false rs = (4, 0, r) by simp [nextV]
      go_wp2_with fail
      refine (l15Lock_any _ _ _ _).mono ?_
      rintro e w1 ⟨rfl, h1⟩
      obtain ⟨hc, hf⟩ := bcell h1
      have q0 := hc (w.heap.size + 1 + 1) 0 (by first | omega | (simp; done) | (simp; omega))
      have f0 := hf (w.heap.size + 1 + 1) 0 (by first | omega | (simp; done) | (simp; omega))
      have q1 := hc (w.heap.size + 1 + 1) 1 (by first | omega | (simp; done) | (simp; omega))
      have f1 := hf (w.heap.size + 1 + 1) 1 (by first | omega | (simp; done) | (simp; omega))
      have q2 := hc (w.heap.size + 1 + 1) 2 (by first | omega | (simp; done) | (simp; omega))
      have f2 := hf (w.heap.size + 1 + 1) 2 (by first | omega | (simp; done) | (simp; omega))
      simp [go_sem] at q0 q1 q2 f0 f1 f2
      have z1 : w.heap.size + 1 + 1 < w1.heap.size := by have := h1.size; simp at this; omega
      have B1 : Below w.heap.size w w1 := Below.trans (by repeat (first | with_reducible exact Below.refl _ _ | with_reducible refine Below.setCell ?_ (by first | omega | (simp; done) | (simp; omega)) _ | with_reducible refine bDrewN ?_ _ | with_reducible refine Below.drew ?_ | with_reducible refine Below.alloc ?_ (by first | omega | (simp; done) | (simp; omega)) _)) (h1.mono (by first | omega | (simp; done) | (simp; omega)))
      clear hc hf h1
      go_wp2
      exact bodyPost_ret (v := .agg #[.int .i64 4, .int .i64 0, .int .i64 r]) (by simp [results, Try.results35, go_sem, q0, q1, q2]) rfl ⟨by rw [HN.out], (by repeat (first | with_reducible exact Below.refl _ _ | with_reducible exact B1 | with_reducible refine Below.setCell ?_ (by first | omega | (simp; done) | (simp; omega)) _ | with_reducible refine bDrewN ?_ _ | with_reducible refine Below.drew ?_ | with_reducible refine Below.alloc ?_ (by first | omega | (simp; done) | (simp; omega)) _))⟩
    case true =>
      cases gas
      case false =>
        have HN : Hid (nextV 2 t r true false fl st false rs = (4, 0, r)) := show nextV 2 t r true false fl st false rs = (4, 0, r) by simp [nextV]
        go_wp2_with fail
        refine (l15Lock_any _ _ _ _).mono ?_
        rintro e w1 ⟨rfl, h1⟩
        obtain ⟨hc, hf⟩ := bcell h1
        have q0 := hc (w.heap.size + 1 + 1) 0 (by first | omega | (simp; done) | (simp; omega))
        have f0 := hf (w.heap.size + 1 + 1) 0 (by first | omega | (simp; done) | (simp; omega))
        have q1 := hc (w.heap.size + 1 + 1) 1 (by first | omega | (simp; done) | (simp; omega))
        have f1 := hf (w.heap.size + 1 + 1) 1 (by first | omega | (simp; done) | (simp; omega))
        have q2 := hc (w.heap.size + 1 + 1) 2 (by first | omega | (simp; done) | (simp; omega))
        have f2 := hf (w.heap.size + 1 + 1) 2 (by first | omega | (simp; done) | (simp; omega))
        simp [go_sem] at q0 q1 q2 f0 f1 f2
        have z1 : w.heap.size + 1 + 1 < w1.heap.size := by have := h1.size; simp at this; omega
        have B1 : Below w.heap.size w w1 := Below.trans (by repeat (first | with_reducible exact Below.refl _ _ | with_reducible refine Below.setCell ?_ (by first | omega | (simp; done) | (simp; omega)) _ | with_reducible refine bDrewN ?_ _ | with_reducible refine Below.drew ?_ | with_reducible refine Below.alloc ?_ (by first | omega | (simp; done) | (simp; omega)) _)) (h1.mono (by first | omega | (simp; done) | (simp; omega)))
        clear hc hf h1
        go_wp2
        exact bodyPost_ret (v := .agg #[.int .i64 4, .int .i64 0, .int .i64 r]) (by simp [results, Try.results35, go_sem, q0, q1, q2]) rfl ⟨by rw [HN.out], (by repeat (first | with_reducible exact Below.refl _ _ | with_reducible exact B1 | with_reducible refine Below.setCell ?_ (by first | omega | (simp; done) | (simp; omega)) _ | with_reducible refine bDrewN ?_ _ | with_reducible refine Below.drew ?_ | with_reducible refine Below.alloc ?_ (by first | omega | (simp; done) | (simp; omega)) _))⟩
      case true =>
        cases fl
        case false =>
          by_cases q : t + 1 < 3
          case pos =>
            have HN : Hid (nextV 2 t r true true false st false rs = (2, t + 1, r)) := show nextV 2 t r true true false st false rs = (2, t + 1, r) by simp [nextV, q]
            go_wp2
            exact bodyPost_ret (v := .agg #[.int .i64 2, .int .i64 (t + 1), .int .i64 r]) (by simp [results, Try.results35, go_sem]) rfl ⟨by rw [HN.out], (by repeat (first | with_reducible exact Below.refl _ _ | with_reducible refine Below.setCell ?_ (by first | omega | (simp; done) | (simp; omega)) _ | with_reducible refine bDrewN ?_ _ | with_reducible refine Below.drew ?_ | with_reducible refine Below.alloc ?_ (by first | omega | (simp; done) | (simp; omega)) _))⟩
          case neg =>
            by_cases q2 : r + 1 = 3
            case pos =>
              have HN : Hid (nextV 2 t r true true false st false rs = (4, 0, 3)) := show nextV 2 t r true true false st false rs = (4, 0, 3) by simp [nextV, q, q2]
              go_wp2
              exact bodyPost_ret (v := .agg #[.int .i64 4, .int .i64 0, .int .i64 3]) (by simp [results, Try.results35, go_sem]) rfl ⟨by rw [HN.out], (by repeat (first | with_reducible exact Below.refl _ _ | with_reducible refine Below.setCell ?_ (by first | omega | (simp; done) | (simp; omega)) _ | with_reducible refine bDrewN ?_ _ | with_reducible refine Below.drew ?_ | with_reducible refine Below.alloc ?_ (by first | omega | (simp; done) | (simp; omega)) _))⟩
            case neg =>
              have HN : Hid (nextV 2 t r true true false st false rs = (1, 0, r + 1)) := show nextV 2 t r true true false st false rs = (1, 0, r + 1) by simp [nextV, q, q2]
              go_wp2
              exact bodyPost_ret (v := .agg #[.int .i64 1, .int .i64 0, .int .i64 (r + 1)]) (by simp [results, Try.results35, go_sem]) rfl ⟨by rw [HN.out], (by repeat (first | with_reducible exact Below.refl _ _ | with_reducible refine Below.setCell ?_ (by first | omega | (simp; done) | (simp; omega)) _ | with_reducible refine bDrewN ?_ _ | with_reducible refine Below.drew ?_ | with_reducible refine Below.alloc ?_ (by first | omega | (simp; done) | (simp; omega)) _))⟩
        case true =>
          have HN : Hid (nextV 2 t r true true true st false rs = (3, 0, 0)) := show nextV 2 t r true true true st false rs = (3, 0, 0) by simp [nextV]
          go_wp2
          exact bodyPost_ret (v := .agg #[.int .i64 3, .int .i64 0, .int .i64 0]) (by simp [results, Try.results35, go_sem]) rfl ⟨by rw [HN.out], (by repeat (first | with_reducible exact Below.refl _ _ | with_reducible refine Below.setCell ?_ (by first | omega | (simp; done) | (simp; omega)) _ | with_reducible refine bDrewN ?_ _ | with_reducible refine Below.drew ?_ | with_reducible refine Below.alloc ?_ (by first | omega | (simp; done) | (simp; omega)) _))⟩
  case true =>
    have HN : Hid (nextV 2 t r air gas fl st true rs = (0, 0, 0)) := show nextV 2 t r air gas fl st true rs = (0, 0, 0) by simp [nextV]
    go_wp2
    exact bodyPost_ret (v := .agg #[.int .i64 0, .int .i64 0, .int .i64 0]) (by simp [results, Try.results35, go_sem]) rfl ⟨by rw [HN.out], (by repeat (first | with_reducible exact Below.refl _ _ | with_reducible refine Below.setCell ?_ (by first | omega | (simp; done) | (simp; omega)) _ | with_reducible refine bDrewN ?_ _ | with_reducible refine Below.drew ?_ | with_reducible refine Below.alloc ?_ (by first | omega | (simp; done) | (simp; omega)) _))⟩
set_option maxHeartbeats 8000000 in
theorem nextS_on (air gas fl st sp rs : Bool) (w : World) : Calls Try.prog 35 #[.agg #[.int .i64 3, .int .i64 0, .int .i64 0], .agg #[.bool air, .bool gas, .bool fl, .bool st, .bool sp, .bool rs]] w fun e w' => e = .returned (.agg #[.int .i64 (nextV 3 0 0 air gas fl st sp rs).1, .int .i64 (nextV 3 0 0 air gas fl st sp rs).2.1, .int .i64 (nextV 3 0 0 air gas fl st sp rs).2.2]) ∧ Below w.heap.size w w' := by
  go_enter Try.func35, Try.ntmps35
  cases sp
  case false =>
    cases air
    case false =>
      have HN : Hid (nextV 3 0 0 false gas fl st false rs = (4, 0, 0)) := show nextV 3 0 0 false gas fl st false rs = (4, 0, 0) by simp [nextV]
      go_wp2_with fail
      refine (l15Lock_any _ _ _ _).mono ?_
      rintro e w1 ⟨rfl, h1⟩
      obtain ⟨hc, hf⟩ := bcell h1
      have q0 := hc (w.heap.size + 1 + 1) 0 (by first | omega | (simp; done) | (simp; omega))
      have f0 := hf (w.heap.size + 1 + 1) 0 (by first | omega | (simp; done) | (simp; omega))
      have q1 := hc (w.heap.size + 1 + 1) 1 (by first | omega | (simp; done) | (simp; omega))
      have f1 := hf (w.heap.size + 1 + 1) 1 (by first | omega | (simp; done) | (simp; omega))
      have q2 := hc (w.heap.size + 1 + 1) 2 (by first | omega | (simp; done) | (simp; omega))
      have f2 := hf (w.heap.size + 1 + 1) 2 (by first | omega | (simp; done) | (simp; omega))
      simp [go_sem] at q0 q1 q2 f0 f1 f2
      have z1 : w.heap.size + 1 + 1 < w1.heap.size := by have := h1.size; simp at this; omega
      have B1 : Below w.heap.size w w1 := Below.trans (by repeat (first | with_reducible exact Below.refl _ _ | with_reducible refine Below.setCell ?_ (by first | omega | (simp; done) | (simp; omega)) _ | with_reducible refine bDrewN ?_ _ | with_reducible refine Below.drew ?_ | with_reducible refine Below.alloc ?_ (by first | omega | (simp; done) | (simp; omega)) _)) (h1.mono (by first | omega | (simp; done) | (simp; omega)))
      clear hc hf h1
      go_wp2
      exact bodyPost_ret (v := .agg #[.int .i64 4, .int .i64 0, .int .i64 0]) (by simp [results, Try.results35, go_sem, q0, q1, q2]) rfl ⟨by rw [HN.out], (by repeat (first | with_reducible exact Below.refl _ _ | with_reducible exact B1 | with_reducible refine Below.setCell ?_ (by first | omega | (simp; done) | (simp; omega)) _ | with_reducible refine bDrewN ?_ _ | with_reducible refine Below.drew ?_ | with_reducible refine Below.alloc ?_ (by first | omega | (simp; done) | (simp; omega)) _))⟩
    case true =>
      cases gas
      case false =>
        have HN : Hid (nextV 3 0 0 true false fl st false rs = (4, 0, 0)) := show nextV 3 0 0 true false fl st false rs = (4, 0, 0) by simp [nextV]
        go_wp2_with fail
        refine (l15Lock_any _ _ _ _).mono ?_
        rintro e w1 ⟨rfl, h1⟩
        obtain ⟨hc, hf⟩ := bcell h1
        have q0 := hc (w.heap.size + 1 + 1) 0 (by first | omega | (simp; done) | (simp; omega))
        have f0 := hf (w.heap.size + 1 + 1) 0 (by first | omega | (simp; done) | (simp; omega))
        have q1 := hc (w.heap.size + 1 + 1) 1 (by first | omega | (simp; done) | (simp; omega))
        have f1 := hf (w.heap.size + 1 + 1) 1 (by first | omega | (simp; done) | (simp; omega))
        have q2 := hc (w.heap.size + 1 + 1) 2 (by first | omega | (simp; done) | (simp; omega))
        have f2 := hf (w.heap.size + 1 + 1) 2 (by first | omega | (simp; done) | (simp; omega))
        simp [go_sem] at q0 q1 q2 f0 f1 f2
        have z1 : w.heap.size + 1 + 1 < w1.heap.size := by have := h1.size; simp at this; omega
        have B1 : Below w.heap.size w w1 := Below.trans (by repeat (first | with_reducible exact Below.refl _ _ | with_reducible refine Below.setCell ?_ (by first | omega | (simp; done) | (simp; omega)) _ | with_reducible refine bDrewN ?_ _ | with_reducible refine Below.drew ?_ | with_reducible refine Below.alloc ?_ (by first | omega | (simp; done) | (simp; omega)) _)) (h1.mono (by first | omega | (simp; done) | (simp; omega)))
        clear hc hf h1
        go_wp2
        exact bodyPost_ret (v := .agg #[.int .i64 4, .int .i64 0, .int .i64 0]) (by simp [results, Try.results35, go_sem, q0, q1, q2]) rfl ⟨by rw [HN.out], (by repeat (first | with_reducible exact Below.refl _ _ | with_reducible exact B1 | with_reducible refine Below.setCell ?_ (by first | omega | (simp; done) | (simp; omega)) _ | with_reducible refine bDrewN ?_ _ | with_reducible refine Below.drew ?_ | with_reducible refine Below.alloc ?_ (by first | omega | (simp; done) | (simp; omega)) _))⟩
      case true =>
        cases fl
        case false =>
          have HN : Hid (nextV 3 0 0 true true false st false rs = (4, 0, 0)) := show nextV 3 0 0 true true false st false rs = (4, 0, 0) by simp [nextV]
          go_wp2_with fail
          refine (l15Lock_any _ _ _ _).mono ?_
          rintro e w1 ⟨rfl, h1⟩
          obtain ⟨hc, hf⟩ := bcell h1
          have q0 := hc (w.heap.size + 1 + 1) 0 (by first | omega | (simp; done) | (simp; omega))
          have f0 := hf (w.heap.size + 1 + 1) 0 (by first | omega | (simp; done) | (simp; omega))
          have q1 := hc (w.heap.size + 1 + 1) 1 (by first | omega | (simp; done) | (simp; omega))
          have f1 := hf (w.heap.size + 1 + 1) 1 (by first | omega | (simp; done) | (simp; omega))
          have q2 := hc (w.heap.size + 1 + 1) 2 (by first | omega | (simp; done) | (simp; omega))
          have f2 := hf (w.heap.size + 1 + 1) 2 (by first | omega | (simp; done) | (simp; omega))
          simp [go_sem] at q0 q1 q2 f0 f1 f2
          have z1 : w.heap.size + 1 + 1 < w1.heap.size := by have := h1.size; simp at this; omega
          have B1 : Below w.heap.size w w1 := Below.trans (by repeat (first | with_reducible exact Below.refl _ _ | with_reducible refine Below.setCell ?_ (by first | omega | (simp; done) | (simp; omega)) _ | with_reducible refine bDrewN ?_ _ | with_reducible refine Below.drew ?_ | with_reducible refine Below.alloc ?_ (by first | omega | (simp; done) | (simp; omega)) _)) (h1.mono (by first | omega | (simp; done) | (simp; omega)))
          clear hc hf h1
          go_wp2
          exact bodyPost_ret (v := .agg #[.int .i64 4, .int .i64 0, .int .i64 0]) (by simp [results, Try.results35, go_sem, q0, q1, q2]) rfl ⟨by rw [HN.out], (by repeat (first | with_reducible exact Below.refl _ _ | with_reducible exact B1 | with_reducible refine Below.setCell ?_ (by first | omega | (simp; done) | (simp; omega)) _ | with_reducible refine bDrewN ?_ _ | with_reducible refine Below.drew ?_ | with_reducible refine Below.alloc ?_ (by first | omega | (simp; done) | (simp; omega)) _))⟩
        case true =>
          have HN : Hid (nextV 3 0 0 true true true st false rs = (3, 0, 0)) := show nextV 3 0 0 true true true st false rs = (3, 0, 0) by simp [nextV]
          go_wp2
          exact bodyPost_ret (v := .agg #[.int .i64 3, .int .i64 0, .int .i64 0]) (by simp [results, Try.results35, go_sem]) rfl ⟨by rw [HN.out], (by repeat (first | with_reducible exact Below.refl _ _ | with_reducible refine Below.setCell ?_ (by first | omega | (simp; done) | (simp; omega)) _ | with_reducible refine bDrewN ?_ _ | with_reducible refine Below.drew ?_ | with_reducible refine Below.alloc ?_ (by first | omega | (simp; done) | (simp; omega)) _))⟩
  case true =>
    have HN : Hid (nextV 3 0 0 air gas fl st true rs = (0, 0, 0)) := show nextV 3 0 0 air gas fl st true rs = (0, 0, 0) by simp [nextV]
    go_wp2
    exact bodyPost_ret (v := .agg #[.int .i64 0, .int .i64 0, .int .i64 0]) (by simp [results, Try.results35, go_sem]) rfl ⟨by rw [HN.out], (by repeat (first | with_reducible exact Below.refl _ _ | with_reducible refine Below.setCell ?_ (by first | omega | (simp; done) | (simp; omega)) _ | with_reducible refine bDrewN ?_ _ | with_reducible refine Below.drew ?_ | with_reducible refine Below.alloc ?_ (by first | omega | (simp; done) | (simp; omega)) _))⟩
set_option maxHeartbeats 8000000 in
theorem nextS_lock (r : Int) (air gas fl st sp rs : Bool) (w : World) : Calls Try.prog 35 #[.agg #[.int .i64 4, .int .i64 0, .int .i64 r], .agg #[.bool air, .bool gas, .bool fl, .bool st, .bool sp, .bool rs]] w fun e w' => e = .returned (.agg #[.int .i64 (nextV 4 0 r air gas fl st sp rs).1, .int .i64 (nextV 4 0 r air gas fl st sp rs).2.1, .int .i64 (nextV 4 0 r air gas fl st sp rs).2.2]) ∧ Below w.heap.size w w' := by
  go_enter Try.func35, Try.ntmps35
  cases rs
  case false =>
    have HN : Hid (nextV 4 0 r air gas fl st sp false = (4, 0, r)) := show nextV 4 0 r air gas fl st sp false = (4, 0, r) by simp [nextV]
    go_wp2
    exact bodyPost_ret (v := .agg #[.int .i64 4, .int .i64 0, .int .i64 r]) (by simp [results, Try.results35, go_sem]) rfl ⟨by rw [HN.out], (by repeat (first | with_reducible exact Below.refl _ _ | with_reducible refine Below.setCell ?_ (by first | omega | (simp; done) | (simp; omega)) _ | with_reducible refine bDrewN ?_ _ | with_reducible refine Below.drew ?_ | with_reducible refine Below.alloc ?_ (by first | omega | (simp; done) | (simp; omega)) _))⟩
  case true =>
    cases fl
    case false =>
      have HN : Hid (nextV 4 0 r air gas false st sp true = (0, 0, 0)) := show nextV 4 0 r air gas false st sp true = (0, 0, 0) by simp [nextV]
      go_wp2
      exact bodyPost_ret (v := .agg #[.int .i64 0, .int .i64 0, .int .i64 0]) (by simp [results, Try.results35, go_sem]) rfl ⟨by rw [HN.out], (by repeat (first | with_reducible exact Below.refl _ _ | with_reducible refine Below.setCell ?_ (by first | omega | (simp; done) | (simp; omega)) _ | with_reducible refine bDrewN ?_ _ | with_reducible refine Below.drew ?_ | with_reducible refine Below.alloc ?_ (by first | omega | (simp; done) | (simp; omega)) _))⟩
    case true =>
      have HN : Hid (nextV 4 0 r air gas true st sp true = (4, 0, r)) := show nextV 4 0 r air gas true st sp true = (4, 0, r) by simp [nextV]
      go_wp2
      exact bodyPost_ret (v := .agg #[.int .i64 4, .int .i64 0, .int .i64 r]) (by simp [results, Try.results35, go_sem]) rfl ⟨by rw [HN.out], (by repeat (first | with_reducible exact Below.refl _ _ | with_reducible refine Below.setCell ?_ (by first | omega | (simp; done) | (simp; omega)) _ | with_reducible refine bDrewN ?_ _ | with_reducible refine Below.drew ?_ | with_reducible refine Below.alloc ?_ (by first | omega | (simp; done) | (simp; omega)) _))⟩
theorem l15Next_any (s t r : Int) (air gas fl st sp rs : Bool) (w : World) (h : okB s t r = true) : Calls Try.prog 35 #[.agg #[.int .i64 s, .int .i64 t, .int .i64 r], .agg #[.bool air, .bool gas, .bool fl, .bool st, .bool sp, .bool rs]] w fun e w' => e = .returned (.agg #[.int .i64 (nextV s t r air gas fl st sp rs).1, .int .i64 (nextV s t r air gas fl st sp rs).2.1, .int .i64 (nextV s t r air gas fl st sp rs).2.2]) ∧ Below w.heap.size w w' := by
  rcases ok_yes h with ⟨rfl | rfl, rfl, rfl⟩ | ⟨rfl, t0, t1, r0, r1⟩ | ⟨rfl, t0, t1, r0, r1⟩ | ⟨rfl, rfl, r0, r1⟩
  · exact nextS_off air gas fl st sp rs w
  · exact nextS_on air gas fl st sp rs w
  · exact nextS_purge t r air gas fl st sp rs w t0 t1
  · exact nextS_light t r air gas fl st sp rs w t0 t1 r0 r1
  · exact nextS_lock r air gas fl st sp rs w
set_option maxHeartbeats 2000000 in
theorem l15Out_any (s t r : Int) (w : World) : Calls Try.prog 36 #[.agg #[.int .i64 s, .int .i64 t, .int .i64 r]] w fun e w' => e = .returned (.agg #[.bool (fanB s), .bool (sparkB s), .bool (valveB s)]) ∧ Below w.heap.size w w' := by
  by_cases e1 : s = 1
  · subst e1
    go_enter Try.func36, Try.ntmps36
    go_wp2
    exact bodyPost_ret (v := .agg #[.bool true, .bool false, .bool false]) (by simp [results, Try.results36, go_sem]) rfl ⟨rfl, (by repeat (first | with_reducible exact Below.refl _ _ | with_reducible refine Below.setCell ?_ (by first | omega | (simp; done) | (simp; omega)) _ | with_reducible refine bDrewN ?_ _ | with_reducible refine Below.drew ?_ | with_reducible refine Below.alloc ?_ (by first | omega | (simp; done) | (simp; omega)) _))⟩
  by_cases e2 : s = 2
  · subst e2
    go_enter Try.func36, Try.ntmps36
    go_wp2
    exact bodyPost_ret (v := .agg #[.bool true, .bool true, .bool true]) (by simp [results, Try.results36, go_sem]) rfl ⟨rfl, (by repeat (first | with_reducible exact Below.refl _ _ | with_reducible refine Below.setCell ?_ (by first | omega | (simp; done) | (simp; omega)) _ | with_reducible refine bDrewN ?_ _ | with_reducible refine Below.drew ?_ | with_reducible refine Below.alloc ?_ (by first | omega | (simp; done) | (simp; omega)) _))⟩
  by_cases e3 : s = 3
  · subst e3
    go_enter Try.func36, Try.ntmps36
    go_wp2
    exact bodyPost_ret (v := .agg #[.bool true, .bool false, .bool true]) (by simp [results, Try.results36, go_sem]) rfl ⟨rfl, (by repeat (first | with_reducible exact Below.refl _ _ | with_reducible refine Below.setCell ?_ (by first | omega | (simp; done) | (simp; omega)) _ | with_reducible refine bDrewN ?_ _ | with_reducible refine Below.drew ?_ | with_reducible refine Below.alloc ?_ (by first | omega | (simp; done) | (simp; omega)) _))⟩
  have b1 : (s == 1) = false := by simpa using e1
  have b2 : (s == 2) = false := by simpa using e2
  have b3 : (s == 3) = false := by simpa using e3
  have HF : Hid (fanB s = false ∧ sparkB s = false ∧ valveB s = false) := show _ ∧ _ ∧ _ by simp [fanB, sparkB, valveB, e1, e2, e3]
  go_enter Try.func36, Try.ntmps36
  go_wp2
  exact bodyPost_ret (v := .agg #[.bool false, .bool false, .bool false]) (by simp [results, Try.results36, go_sem]) rfl ⟨by rw [HF.out.1, HF.out.2.1, HF.out.2.2], (by repeat (first | with_reducible exact Below.refl _ _ | with_reducible refine Below.setCell ?_ (by first | omega | (simp; done) | (simp; omega)) _ | with_reducible refine bDrewN ?_ _ | with_reducible refine Below.drew ?_ | with_reducible refine Below.alloc ?_ (by first | omega | (simp; done) | (simp; omega)) _))⟩
end Go.Proofs.Ytpnihekpokfooaa
