/-
What is proved: the first row of the program's table that holds tells the next burner.
-/
import Derived.Test.YtpnihekpokfooaaBuT
import Derived.Test.YtpnihekpokfooaaCon
import Derived.Deep.RegionHeld3
import Derived.Deep.DeepCutAuto
namespace Go.Proofs.Ytpnihekpokfooaa
set_option maxRecDepth 40000
open Go.RowKit
set_option linter.unusedVariables false
set_option linter.unusedSimpArgs false

def hitB (s t r : Int) (air gas fl st sp rs : Bool) (k : Nat) : Bool := hasB (fun j => (fromL k)[j]!) (fromL k).length s && whenV t air gas fl st sp rs k
theorem has_mem (L : List Int) (x : Int) : hasB (fun j => L[j]!) L.length x = decide (x ∈ L) := by
  unfold hasB
  rw [decide_eq_decide]
  constructor
  · rintro ⟨j, hj, h⟩
    have h : L[j]! = x := h
    rw [getElem!_pos L j hj] at h
    exact h ▸ List.getElem_mem hj
  · intro h
    obtain ⟨j, hj, e⟩ := List.getElem_of_mem h
    exact ⟨j, hj, (getElem!_pos L j hj).trans e⟩
theorem hit_eq (s t r : Int) (air gas fl st sp rs : Bool) (k : Nat) : hitB s t r air gas fl st sp rs k = (decide (s ∈ fromL k) && whenV t air gas fl st sp rs k) := by
  unfold hitB; rw [has_mem]
theorem from_len (k : Nat) : ((fromL k).length : Int) ≤ 1048576 := by
  unfold fromL
  split <;> decide
def FirstV (s t r : Int) (air gas fl st sp rs : Bool) (k : Nat) : Prop := k < 16 ∧ hitB s t r air gas fl st sp rs k = true ∧ ∀ j, j < k → hitB s t r air gas fl st sp rs j = false
theorem first_one (s t r : Int) (air gas fl st sp rs : Bool) {k m : Nat} (h : FirstV s t r air gas fl st sp rs k) (h' : FirstV s t r air gas fl st sp rs m) : k = m := by
  rcases Nat.lt_trichotomy k m with c | c | c
  · have := h'.2.2 k c; rw [h.2.1] at this; cases this
  · exact c
  · have := h.2.2 m c; rw [h'.2.1] at this; cases this
theorem first_of (s t r : Int) (air gas fl st sp rs : Bool) (k : Nat) (hk : k < 16) (h : hitB s t r air gas fl st sp rs k = true) (hl : (List.range k).all (fun j => !hitB s t r air gas fl st sp rs j) = true) : FirstV s t r air gas fl st sp rs k :=
  ⟨hk, h, fun j hj => by
    have := List.all_eq_true.1 hl j (List.mem_range.2 hj)
    simpa using this⟩
theorem first_some (s t r : Int) (air gas fl st sp rs : Bool) (h : okB s t r = true) : ∃ k, FirstV s t r air gas fl st sp rs k ∧ thenV s t r k = nextV s t r air gas fl st sp rs := by
  rcases ok_yes h with ⟨rfl | rfl, rfl, rfl⟩ | ⟨rfl, t0, t1, r0, r1⟩ | ⟨rfl, t0, t1, r0, r1⟩ | ⟨rfl, rfl, r0, r1⟩
  · cases sp
    case false =>
      cases fl
      case false =>
        cases st
        case false =>
          exact ⟨5, first_of _ _ _ _ _ _ _ _ _ 5 (by decide) (by rw [hit_eq]; simp [fromL, whenV]) (by simp [List.range, List.range.loop, hit_eq, fromL, whenV]), by simp [nextV, thenV]⟩
        case true =>
          exact ⟨4, first_of _ _ _ _ _ _ _ _ _ 4 (by decide) (by rw [hit_eq]; simp [fromL, whenV]) (by simp [List.range, List.range.loop, hit_eq, fromL, whenV]), by simp [nextV, thenV]⟩
      case true =>
        exact ⟨3, first_of _ _ _ _ _ _ _ _ _ 3 (by decide) (by rw [hit_eq]; simp [fromL, whenV]) (by simp [List.range, List.range.loop, hit_eq, fromL, whenV]), by simp [nextV, thenV]⟩
    case true =>
      exact ⟨2, first_of _ _ _ _ _ _ _ _ _ 2 (by decide) (by rw [hit_eq]; simp [fromL, whenV]) (by simp [List.range, List.range.loop, hit_eq, fromL, whenV]), by simp [nextV, thenV]⟩
  · cases sp
    case false =>
      cases air
      case false =>
        exact ⟨10, first_of _ _ _ _ _ _ _ _ _ 10 (by decide) (by rw [hit_eq]; simp [fromL, whenV]) (by simp [List.range, List.range.loop, hit_eq, fromL, whenV]), by simp [nextV, thenV]⟩
      case true =>
        cases gas
        case false =>
          exact ⟨10, first_of _ _ _ _ _ _ _ _ _ 10 (by decide) (by rw [hit_eq]; simp [fromL, whenV]) (by simp [List.range, List.range.loop, hit_eq, fromL, whenV]), by simp [nextV, thenV]⟩
        case true =>
          cases fl
          case false =>
            exact ⟨14, first_of _ _ _ _ _ _ _ _ _ 14 (by decide) (by rw [hit_eq]; simp [fromL, whenV]) (by simp [List.range, List.range.loop, hit_eq, fromL, whenV]), by simp [nextV, thenV]⟩
          case true =>
            exact ⟨15, first_of _ _ _ _ _ _ _ _ _ 15 (by decide) (by rw [hit_eq]; simp [fromL, whenV]) (by simp [List.range, List.range.loop, hit_eq, fromL, whenV]), by simp [nextV, thenV]⟩
    case true =>
      exact ⟨2, first_of _ _ _ _ _ _ _ _ _ 2 (by decide) (by rw [hit_eq]; simp [fromL, whenV]) (by simp [List.range, List.range.loop, hit_eq, fromL, whenV]), by simp [nextV, thenV]⟩
  · cases sp
    case false =>
      cases fl
      case false =>
        cases air
        case false =>
          exact ⟨6, first_of _ _ _ _ _ _ _ _ _ 6 (by decide) (by rw [hit_eq]; simp [fromL, whenV]) (by simp [List.range, List.range.loop, hit_eq, fromL, whenV]), by simp [nextV, thenV]⟩
        case true =>
          by_cases q : t = 4
          case pos =>
            subst q
            cases gas
            case false =>
              exact ⟨7, first_of _ _ _ _ _ _ _ _ _ 7 (by decide) (by rw [hit_eq]; simp [fromL, whenV]) (by simp [List.range, List.range.loop, hit_eq, fromL, whenV]), by simp [nextV, thenV]⟩
            case true =>
              exact ⟨8, first_of _ _ _ _ _ _ _ _ _ 8 (by decide) (by rw [hit_eq]; simp [fromL, whenV]) (by simp [List.range, List.range.loop, hit_eq, fromL, whenV]), by simp [nextV, thenV]⟩
          case neg =>
            have q2 : t < 4 := by omega
            exact ⟨9, first_of _ _ _ _ _ _ _ _ _ 9 (by decide) (by rw [hit_eq]; simp [fromL, whenV, q, q2]) (by simp [List.range, List.range.loop, hit_eq, fromL, whenV, q, q2]), by simp [nextV, thenV, q, q2]⟩
      case true =>
        exact ⟨3, first_of _ _ _ _ _ _ _ _ _ 3 (by decide) (by rw [hit_eq]; simp [fromL, whenV]) (by simp [List.range, List.range.loop, hit_eq, fromL, whenV]), by simp [nextV, thenV]⟩
    case true =>
      exact ⟨2, first_of _ _ _ _ _ _ _ _ _ 2 (by decide) (by rw [hit_eq]; simp [fromL, whenV]) (by simp [List.range, List.range.loop, hit_eq, fromL, whenV]), by simp [nextV, thenV]⟩
  · cases sp
    case false =>
      cases air
      case false =>
        exact ⟨10, first_of _ _ _ _ _ _ _ _ _ 10 (by decide) (by rw [hit_eq]; simp [fromL, whenV]) (by simp [List.range, List.range.loop, hit_eq, fromL, whenV]), by simp [nextV, thenV]⟩
      case true =>
        cases gas
        case false =>
          exact ⟨10, first_of _ _ _ _ _ _ _ _ _ 10 (by decide) (by rw [hit_eq]; simp [fromL, whenV]) (by simp [List.range, List.range.loop, hit_eq, fromL, whenV]), by simp [nextV, thenV]⟩
        case true =>
          cases fl
          case false =>
            by_cases q : t = 2
            case pos =>
              subst q
              exact ⟨12, first_of _ _ _ _ _ _ _ _ _ 12 (by decide) (by rw [hit_eq]; simp [fromL, whenV]) (by simp [List.range, List.range.loop, hit_eq, fromL, whenV]), by simp [nextV, thenV]⟩
            case neg =>
              have q2 : t + 1 < 3 := by omega
              exact ⟨13, first_of _ _ _ _ _ _ _ _ _ 13 (by decide) (by rw [hit_eq]; simp [fromL, whenV, q, q2]) (by simp [List.range, List.range.loop, hit_eq, fromL, whenV, q, q2]), by simp [nextV, thenV, q, q2]⟩
          case true =>
            exact ⟨11, first_of _ _ _ _ _ _ _ _ _ 11 (by decide) (by rw [hit_eq]; simp [fromL, whenV]) (by simp [List.range, List.range.loop, hit_eq, fromL, whenV]), by simp [nextV, thenV]⟩
    case true =>
      exact ⟨2, first_of _ _ _ _ _ _ _ _ _ 2 (by decide) (by rw [hit_eq]; simp [fromL, whenV]) (by simp [List.range, List.range.loop, hit_eq, fromL, whenV]), by simp [nextV, thenV]⟩
  · cases rs
    case false =>
      exact ⟨1, first_of _ _ _ _ _ _ _ _ _ 1 (by decide) (by rw [hit_eq]; simp [fromL, whenV]) (by simp [List.range, List.range.loop, hit_eq, fromL, whenV]), by simp [nextV, thenV]⟩
    case true =>
      cases fl
      case false =>
        exact ⟨0, first_of _ _ _ _ _ _ _ _ _ 0 (by decide) (by rw [hit_eq]; simp [fromL, whenV]) (by simp [List.range, List.range.loop, hit_eq, fromL, whenV]), by simp [nextV, thenV]⟩
      case true =>
        exact ⟨1, first_of _ _ _ _ _ _ _ _ _ 1 (by decide) (by rw [hit_eq]; simp [fromL, whenV]) (by simp [List.range, List.range.loop, hit_eq, fromL, whenV]), by simp [nextV, thenV]⟩
theorem first_next (s t r : Int) (air gas fl st sp rs : Bool) (h : okB s t r = true) (k : Nat) (hk : FirstV s t r air gas fl st sp rs k) : thenV s t r k = nextV s t r air gas fl st sp rs := by
  obtain ⟨m, hm, e⟩ := first_some s t r air gas fl st sp rs h
  rw [first_one _ _ _ _ _ _ _ _ _ hk hm]
  exact e
theorem store_sl : ∀ (W : World) (a : Addr) (s : Option Addr) (n c : Nat), (W.cell? a).isSome = true → W.frozen? a = false → (store a (.slice s n c)).run Try.prog W = .ok () (W.setCell a (.slice s n c)) := fun W a s n c h hf => by
  obtain ⟨u, hu⟩ := Option.isSome_iff_exists.1 h
  rw [run_store Try.prog W a _ _ rfl, hu]
  simp [hf]
theorem store_fn : ∀ (W : World) (a : Addr) (f : Fn) (x y : Array Value), (W.cell? a).isSome = true → W.frozen? a = false → (store a (.func f x y)).run Try.prog W = .ok () (W.setCell a (.func f x y)) := fun W a f x y h hf => by
  obtain ⟨u, hu⟩ := Option.isSome_iff_exists.1 h
  rw [run_store Try.prog W a _ _ rfl, hu]
  simp [hf]
theorem enter_when (x : Array Value) (w : World) : ∀ k, k < 16 → Sem.run Try.prog (callFunc (whenF k) x) w = .ok (.enter (whenF k) x) w
  | 0, _ => by kernel_rfl
  | 1, _ => by kernel_rfl
  | 2, _ => by kernel_rfl
  | 3, _ => by kernel_rfl
  | 4, _ => by kernel_rfl
  | 5, _ => by kernel_rfl
  | 6, _ => by kernel_rfl
  | 7, _ => by kernel_rfl
  | 8, _ => by kernel_rfl
  | 9, _ => by kernel_rfl
  | 10, _ => by kernel_rfl
  | 11, _ => by kernel_rfl
  | 12, _ => by kernel_rfl
  | 13, _ => by kernel_rfl
  | 14, _ => by kernel_rfl
  | 15, _ => by kernel_rfl
  | k + 16, h => by omega
theorem enter_then (x : Array Value) (w : World) : ∀ k, k < 16 → Sem.run Try.prog (callFunc (thenF k) x) w = .ok (.enter (thenF k) x) w
  | 0, _ => by kernel_rfl
  | 1, _ => by kernel_rfl
  | 2, _ => by kernel_rfl
  | 3, _ => by kernel_rfl
  | 4, _ => by kernel_rfl
  | 5, _ => by kernel_rfl
  | 6, _ => by kernel_rfl
  | 7, _ => by kernel_rfl
  | 8, _ => by kernel_rfl
  | 9, _ => by kernel_rfl
  | 10, _ => by kernel_rfl
  | 11, _ => by kernel_rfl
  | 12, _ => by kernel_rfl
  | 13, _ => by kernel_rfl
  | 14, _ => by kernel_rfl
  | 15, _ => by kernel_rfl
  | k + 16, h => by omega
set_option maxRecDepth 20000 in
set_option maxHeartbeats 8000000 in
theorem behind_any (b : Nat) (s t r : Int) (air gas fl st sp rs : Bool) (w : World) (h : okB s t r = true) (HT : Hid (TabAt w b)) : Calls Try.prog 37 #[.slice (some ⟨b, 0, none⟩) 16 16, .agg #[.int .i64 s, .int .i64 t, .int .i64 r], .agg #[.bool air, .bool gas, .bool fl, .bool st, .bool sp, .bool rs]] w fun e w' => e = .returned (.agg #[.int .i64 (nextV s t r air gas fl st sp rs).1, .int .i64 (nextV s t r air gas fl st sp rs).2.1, .int .i64 (nextV s t r air gas fl st sp rs).2.2]) ∧ Below w.heap.size w w' := by
  have sto := store_sl
  have stf := store_fn
  have HN : Hid (∀ k, FirstV s t r air gas fl st sp rs k → thenV s t r k = nextV s t r air gas fl st sp rs) := first_next s t r air gas fl st sp rs h
  have HZ : Hid (∃ k, FirstV s t r air gas fl st sp rs k) := by obtain ⟨k, hk, _⟩ := first_some s t r air gas fl st sp rs h; exact ⟨k, hk⟩
  have bd : (0 ≤ t ∧ t ≤ 4) ∧ 0 ≤ r ∧ r ≤ 3 := by rcases ok_yes h with h | h | h | h <;> omega
  have HW : Hid (∀ k w, k < 16 → Calls Try.prog (whenF k) #[.agg #[.int .i64 s, .int .i64 t, .int .i64 r], .agg #[.bool air, .bool gas, .bool fl, .bool st, .bool sp, .bool rs]] w fun e w' => e = .returned (.bool (whenV t air gas fl st sp rs k)) ∧ Below w.heap.size w w') := fun k w hk => when_any s t r air gas fl st sp rs w k hk
  have HC : Hid (∀ k w, k < 16 → Calls Try.prog (thenF k) #[.agg #[.int .i64 s, .int .i64 t, .int .i64 r]] w fun e w' => e = .returned (.agg #[.int .i64 (thenV s t r k).1, .int .i64 (thenV s t r k).2.1, .int .i64 (thenV s t r k).2.2]) ∧ Below w.heap.size w w') := fun k w hk => then_any s t r w bd.1.1 bd.1.2 bd.2.1 bd.2.2 k hk
  clear bd h
  go_enter Try.func37, Try.ntmps37
  go_upto_region 1 with fail
  obtain ⟨wd, hwd⟩ : ∃ wd, wd = ((w.alloc (.cells #[.int .i64 s, .int .i64 t, .int .i64 r] 25)).alloc (.cells #[.bool air, .bool gas, .bool fl, .bool st, .bool sp, .bool rs] 34)).alloc (.cells #[.int .i64 0, .int .i64 0, .int .i64 0] 25) := ⟨_, rfl⟩
  rw [← hwd]
  have a0 : wd.cell? ⟨w.heap.size, 0, none⟩ = some (.int .i64 s) := by rw [hwd]; simp [go_sem]
  have a1 : wd.cell? ⟨w.heap.size, 1, none⟩ = some (.int .i64 t) := by rw [hwd]; simp [go_sem]
  have a2 : wd.cell? ⟨w.heap.size, 2, none⟩ = some (.int .i64 r) := by rw [hwd]; simp [go_sem]
  have i0 : wd.cell? ⟨w.heap.size + 1, 0, none⟩ = some (.bool air) := by rw [hwd]; simp [go_sem]
  have i1 : wd.cell? ⟨w.heap.size + 1, 1, none⟩ = some (.bool gas) := by rw [hwd]; simp [go_sem]
  have i2 : wd.cell? ⟨w.heap.size + 1, 2, none⟩ = some (.bool fl) := by rw [hwd]; simp [go_sem]
  have i3 : wd.cell? ⟨w.heap.size + 1, 3, none⟩ = some (.bool st) := by rw [hwd]; simp [go_sem]
  have i4 : wd.cell? ⟨w.heap.size + 1, 4, none⟩ = some (.bool sp) := by rw [hwd]; simp [go_sem]
  have i5 : wd.cell? ⟨w.heap.size + 1, 5, none⟩ = some (.bool rs) := by rw [hwd]; simp [go_sem]
  have p0 : wd.cell? ⟨w.heap.size + 1 + 1, 0, none⟩ = some (.int .i64 0) := by rw [hwd]; simp [go_sem]
  have p1 : wd.cell? ⟨w.heap.size + 1 + 1, 1, none⟩ = some (.int .i64 0) := by rw [hwd]; simp [go_sem]
  have p2 : wd.cell? ⟨w.heap.size + 1 + 1, 2, none⟩ = some (.int .i64 0) := by rw [hwd]; simp [go_sem]
  have f0 : wd.frozen? ⟨w.heap.size + 1 + 1, 0, none⟩ = false := by rw [hwd]; simp [go_sem]
  have f1 : wd.frozen? ⟨w.heap.size + 1 + 1, 1, none⟩ = false := by rw [hwd]; simp [go_sem]
  have f2 : wd.frozen? ⟨w.heap.size + 1 + 1, 2, none⟩ = false := by rw [hwd]; simp [go_sem]
  have z2 : w.heap.size + 1 + 1 < wd.heap.size := by rw [hwd]; simp
  have z0 : w.heap.size < wd.heap.size := by omega
  have z1 : w.heap.size + 1 < wd.heap.size := by omega
  have B0 : Hid (Below w.heap.size w wd) := by show Below _ _ _; rw [hwd]; exact (by repeat (first | with_reducible exact Below.refl _ _ | with_reducible refine Below.setCell ?_ (by first | omega | (simp; done) | (simp; omega)) _ | with_reducible refine bDrewN ?_ _ | with_reducible refine Below.drew ?_ | with_reducible refine Below.alloc ?_ (by first | omega | (simp; done) | (simp; omega)) _))
  have TD : Hid (TabAt wd b) := HT.out.below B0.out
  clear hwd
  go_wp2_with fail
  go_loopw [11] (fun i wr => ∃ k : Nat, k ≤ 16 ∧ i = .int .i64 k ∧ Hid (Below wd.heap.size wd wr) ∧ Hid (∀ j, j < k → hitB s t r air gas fl st sp rs j = false)) (fun i _ => 16 - (intOf i).toNat)
  case atStart => exact ⟨0, by omega, rfl, Below.refl _ _, fun j hj => by omega⟩
  case round =>
    obtain ⟨k, hk, rfl, HB, HP⟩ := hrel
    by_cases h1 : k < 16
    case neg =>
      exfalso
      obtain ⟨m, hm⟩ := HZ.out
      have := HP.out m (by have := hm.1; omega)
      rw [hm.2.1] at this
      cases this
    obtain ⟨zb, TR⟩ := TD.out.below HB.out
    obtain ⟨g, t0, R, t1, t2⟩ := TR k h1
    clear TR
    have hl := from_len k
    have HH : Hid (hitB s t r air gas fl st sp rs k = (hasB (fun j => (fromL k)[j]!) (fromL k).length s && whenV t air gas fl st sp rs k)) := rfl
    have KW : Hid (∀ w, Calls Try.prog (whenF k) #[.agg #[.int .i64 s, .int .i64 t, .int .i64 r], .agg #[.bool air, .bool gas, .bool fl, .bool st, .bool sp, .bool rs]] w fun e w' => e = .returned (.bool (whenV t air gas fl st sp rs k)) ∧ Below w.heap.size w w') := fun w => HW.out k w h1
    have KC : Hid (∀ w, Calls Try.prog (thenF k) #[.agg #[.int .i64 s, .int .i64 t, .int .i64 r]] w fun e w' => e = .returned (.agg #[.int .i64 (thenV s t r k).1, .int .i64 (thenV s t r k).2.1, .int .i64 (thenV s t r k).2.2]) ∧ Below w.heap.size w w') := fun w => HC.out k w h1
    have KN : Hid (FirstV s t r air gas fl st sp rs k → thenV s t r k = nextV s t r air gas fl st sp rs) := HN.out k
    have ew := fun x w => enter_when x w k h1
    have ec := fun x w => enter_then x w k h1
    obtain ⟨n, hn⟩ : ∃ n, (fromL k).length = n := ⟨_, rfl⟩
    obtain ⟨U, hU⟩ : ∃ U : Nat → Int, (fun j => (fromL k)[j]!) = U := ⟨_, rfl⟩
    obtain ⟨f, hf⟩ : ∃ f, whenF k = f := ⟨_, rfl⟩
    obtain ⟨fc, hfc⟩ : ∃ fc, thenF k = fc := ⟨_, rfl⟩
    obtain ⟨v, hv⟩ : ∃ v, whenV t air gas fl st sp rs k = v := ⟨_, rfl⟩
    obtain ⟨⟨y0, y1, y2⟩, hy⟩ : ∃ y, thenV s t r k = y := ⟨_, rfl⟩
    rw [hn] at t0 R hl HH
    rw [hU] at R HH
    rw [hf] at t1 KW ew
    rw [hfc] at t2 KC ec
    rw [hv] at KW HH
    rw [hy] at KC KN
    clear hn hU hf hfc hv hy
    have HR : Hid (RowI wr (some ⟨g, 0, none⟩) n U) := R
    clear R
    obtain ⟨m, hm⟩ : ∃ m, hasB U n s = m := ⟨_, rfl⟩
    rw [hm] at HH
    have k1 : (k : Int) < 16 := by omega
    have zr := HB.out.size
    have ua0 : wr.cell? ⟨w.heap.size, 0, none⟩ = some (.int .i64 s) := (HB.out.cell (p := ⟨w.heap.size, 0, none⟩) z0).trans a0
    have ua1 : wr.cell? ⟨w.heap.size, 1, none⟩ = some (.int .i64 t) := (HB.out.cell (p := ⟨w.heap.size, 1, none⟩) z0).trans a1
    have ua2 : wr.cell? ⟨w.heap.size, 2, none⟩ = some (.int .i64 r) := (HB.out.cell (p := ⟨w.heap.size, 2, none⟩) z0).trans a2
    have ui0 : wr.cell? ⟨w.heap.size + 1, 0, none⟩ = some (.bool air) := (HB.out.cell (p := ⟨w.heap.size + 1, 0, none⟩) z1).trans i0
    have ui1 : wr.cell? ⟨w.heap.size + 1, 1, none⟩ = some (.bool gas) := (HB.out.cell (p := ⟨w.heap.size + 1, 1, none⟩) z1).trans i1
    have ui2 : wr.cell? ⟨w.heap.size + 1, 2, none⟩ = some (.bool fl) := (HB.out.cell (p := ⟨w.heap.size + 1, 2, none⟩) z1).trans i2
    have ui3 : wr.cell? ⟨w.heap.size + 1, 3, none⟩ = some (.bool st) := (HB.out.cell (p := ⟨w.heap.size + 1, 3, none⟩) z1).trans i3
    have ui4 : wr.cell? ⟨w.heap.size + 1, 4, none⟩ = some (.bool sp) := (HB.out.cell (p := ⟨w.heap.size + 1, 4, none⟩) z1).trans i4
    have ui5 : wr.cell? ⟨w.heap.size + 1, 5, none⟩ = some (.bool rs) := (HB.out.cell (p := ⟨w.heap.size + 1, 5, none⟩) z1).trans i5
    have x0 : w.heap.size < wr.heap.size := by omega
    have x1 : w.heap.size + 1 < wr.heap.size := by omega
    go_wp2_with fail
    refine (contains_any _ n n U s _ hl (HR.out.below (by repeat (first | with_reducible exact Below.refl _ _ | with_reducible refine Below.setCell ?_ (by first | omega | (simp; done) | (simp; omega)) _ | with_reducible refine bDrewN ?_ _ | with_reducible refine Below.drew ?_ | with_reducible refine Below.alloc ?_ (by first | omega | (simp; done) | (simp; omega)) _)))).mono ?_
    rintro e w1 ⟨rfl, rfl⟩
    rw [hm]
    have HM : Hid (hasB U n s = m) := hm
    clear hm
    cases m
    · go_wp2
      go_roundw
      case rel => exact ⟨k + 1, by omega, by go_num, HB.out.trans (Below.mono (by repeat (first | with_reducible exact Below.refl _ _ | with_reducible refine Below.setCell ?_ (by first | omega | (simp; done) | (simp; omega)) _ | with_reducible refine bDrewN ?_ _ | with_reducible refine Below.drew ?_ | with_reducible refine Below.alloc ?_ (by first | omega | (simp; done) | (simp; omega)) _)) zr), fun j hj => by
        by_cases e : j = k
        · subst e; rw [HH.out]; rfl
        · exact HP.out j (by omega)⟩
      case measure => simp [intOf]; omega
    · go_wp2_with fail
      refine (KW.out _).mono ?_
      rintro e w2 ⟨rfl, h2⟩
      obtain ⟨hc, hf⟩ := bcell h2
      have j0 := hc w.heap.size 0 (by first | omega | (simp; done) | (simp; omega))
      have j1 := hc w.heap.size 1 (by first | omega | (simp; done) | (simp; omega))
      have j2 := hc w.heap.size 2 (by first | omega | (simp; done) | (simp; omega))
      have l0 := hc wr.heap.size 0 (by first | omega | (simp; done) | (simp; omega))
      have l1 := hc wr.heap.size 1 (by first | omega | (simp; done) | (simp; omega))
      have l2 := hc wr.heap.size 2 (by first | omega | (simp; done) | (simp; omega))
      simp [go_sem, ua0, ua1, ua2, t0, t1, t2] at j0 j1 j2 l0 l1 l2
      have B2 : Hid (Below wd.heap.size wd w2) := HB.out.trans (Below.mono (Below.trans (by repeat (first | with_reducible exact Below.refl _ _ | with_reducible refine Below.setCell ?_ (by first | omega | (simp; done) | (simp; omega)) _ | with_reducible refine bDrewN ?_ _ | with_reducible refine Below.drew ?_ | with_reducible refine Below.alloc ?_ (by first | omega | (simp; done) | (simp; omega)) _)) (h2.mono (by first | omega | (simp; done) | (simp; omega)))) zr)
      have s2 : wr.heap.size < w2.heap.size := by have := h2.size; simp at this; omega
      clear hc hf h2
      cases v
      · go_wp2
        go_roundw
        case rel => exact ⟨k + 1, by omega, by go_num, B2.out, fun j hj => by
          by_cases e : j = k
          · subst e; rw [HH.out]; rfl
          · exact HP.out j (by omega)⟩
        case measure => simp [intOf]; omega
      · have KF : Hid ((y0, y1, y2) = nextV s t r air gas fl st sp rs) := KN.out ⟨h1, by rw [HH.out]; rfl, HP.out⟩
        go_wp2_with fail
        refine (KC.out _).mono ?_
        rintro e w3 ⟨rfl, h3⟩
        have B3 : Below wd.heap.size wd w3 := B2.out.trans (h3.mono B2.out.size)
        have s3 := B3.size
        have v0 : w3.cell? ⟨w.heap.size + 1 + 1, 0, none⟩ = some (.int .i64 0) := (B3.cell (p := ⟨w.heap.size + 1 + 1, 0, none⟩) z2).trans p0
        have g0 : w3.frozen? ⟨w.heap.size + 1 + 1, 0, none⟩ = false := (B3.frozen (p := ⟨w.heap.size + 1 + 1, 0, none⟩) z2).trans f0
        have v1 : w3.cell? ⟨w.heap.size + 1 + 1, 1, none⟩ = some (.int .i64 0) := (B3.cell (p := ⟨w.heap.size + 1 + 1, 1, none⟩) z2).trans p1
        have g1 : w3.frozen? ⟨w.heap.size + 1 + 1, 1, none⟩ = false := (B3.frozen (p := ⟨w.heap.size + 1 + 1, 1, none⟩) z2).trans f1
        have v2 : w3.cell? ⟨w.heap.size + 1 + 1, 2, none⟩ = some (.int .i64 0) := (B3.cell (p := ⟨w.heap.size + 1 + 1, 2, none⟩) z2).trans p2
        have g2 : w3.frozen? ⟨w.heap.size + 1 + 1, 2, none⟩ = false := (B3.frozen (p := ⟨w.heap.size + 1 + 1, 2, none⟩) z2).trans f2
        have BW : Below w.heap.size w w3 := B0.out.trans (B3.mono B0.out.size)
        clear h3 B3 j0 j1 j2 l0 l1 l2
        go_wp2
        exact bodyPost_ret (v := .agg #[.int .i64 y0, .int .i64 y1, .int .i64 y2]) (by simp [results, Try.results37, go_sem, v0, v1, v2]) rfl ⟨by rw [← KF.out], (by repeat (first | with_reducible exact Below.refl _ _ | with_reducible exact BW | with_reducible refine Below.setCell ?_ (by first | omega | (simp; done) | (simp; omega)) _ | with_reducible refine bDrewN ?_ _ | with_reducible refine Below.drew ?_ | with_reducible refine Below.alloc ?_ (by first | omega | (simp; done) | (simp; omega)) _))⟩
end Go.Proofs.Ytpnihekpokfooaa
