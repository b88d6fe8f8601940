/-
What is proved: of tests and a moment that are drawn from any code both packages tell the same due ones, each of them due, none further beyond than the one ahead of it; where the variables of errors hold what the program's text lays (the card ties that).
-/
import Derived.Test.YtfhbkfdfggaomabDoorDtSQ
import Derived.Test.YtfhbkfdfggaomabDoorDuD
import Derived.Test.YtfhbkfdfggaomabDoorSaI
import Derived.Test.YtfhbkfdfggaomabDoorOpen8
import Derived.Test.YtfhbkfdfggaomabDoorLaid
import Derived.Stop.LaidErr
import Derived.LaidHandle
import Derived.Deep.DeepCutAuto
import Derived.BigQuiet
namespace Go.Proofs.YtfhbkfdfggaomabDoor
set_option maxRecDepth 40000
open Go.ChangeShapes Go.WideShapes Go.ChangeAt Go.RowKit
set_option linter.unusedVariables false
set_option linter.unusedSimpArgs false

def prU (U : Nat → Int) (j : Nat) : Int × Int := (U (j * 2), U (j * 2 + 1))
theorem row_tst {w : World} {t : Option Addr} {m : Nat} {U : Nat → Int} (h : RowI w t (m * 2) U) : RowTest w t m (prU U) := fun j hj => by
  obtain ⟨b, o, e, hl, c0⟩ := h (j * 2) (by omega)
  obtain ⟨b', o', e', _, c1⟩ := h (j * 2 + 1) (by omega)
  rw [e] at e'
  cases e'
  exact ⟨b, o, e, hl, c0, c1⟩
theorem due_read {m k : Nat} {V : Nat → Int × Int} {now : Int} {W F : Nat → Int} (h : DueR m V now k W) (hf : ∀ i, i < k → W i = F i) : (∀ i, i < k → ∃ x : Nat, x < m ∧ F i = (x : Int) ∧ 0 ≤ byd V now x ∧ duB m V now = true) ∧ ∀ i, i + 1 < k → byd V now (F (i + 1)).toNat ≤ byd V now (F i).toNat := by
  cases e : duB m V now
  · have := h.2 e
    subst this
    exact ⟨fun i hi => by omega, fun i hi => by omega⟩
  · obtain ⟨a, b, _⟩ := h.1 e
    refine ⟨fun i hi => ?_, fun i hi => ?_⟩
    · obtain ⟨x, x1, x2, x3⟩ := b i hi
      exact ⟨x, x1, by rw [← hf i hi]; exact x2, x3, rfl⟩
    · have := a i (i + 1) (Nat.zero_le _) (by omega) hi
      rw [hf i (by omega), hf (i + 1) hi] at this
      unfold ltD at this
      omega
set_option maxHeartbeats 400000 in
theorem due_far (w : World) (s : Option Addr) (n c : Nat) (h : (1048576 : Int) < n) :
    Calls Tryd.prog 4 #[.slice s n c] w fun e w' => e = .returned (.bool true) ∧ Below w.heap.size w w' := by
  go_enter Tryd.func4, Tryd.ntmps4
  go_wp2_with fail
  refine (big_yes _ _ _ _ h).mono ?_
  rintro e w1 ⟨rfl, rfl⟩
  go_wp2
  go_ret
  exact ⟨rfl, Below.refl _ _⟩
set_option maxRecDepth 20000 in
set_option maxHeartbeats 8000000 in
theorem due_near (w : World) (s : Option Addr) (n c : Nat) (h0 : (n : Int) ≤ 1048576) (HC : Hid (Code8 w s n)) (HE : Hid (ErrT w)) :
    Calls Tryd.prog 4 #[.slice s n c] w fun e w' => e = .returned (.bool true) ∧ Below w.heap.size w w' := by
  go_enter Tryd.func4, Tryd.ntmps4
  go_wp2_with fail
  refine (big_no _ _ _ _ h0).mono ?_
  rintro e w1 ⟨rfl, rfl⟩
  go_wp2_with fail
  refine (drawDue_any HC).mono ?_
  rintro e w2 ⟨g, m, cap, U, now, rfl, m61, RA, B2⟩
  obtain ⟨V, hV⟩ : ∃ V, prU U = V := ⟨_, rfl⟩
  have HV : Hid (RowTest w2 (some ⟨g, 0, none⟩) m V) := by rw [← hV]; exact row_tst RA
  have HB : Hid (Below w1.heap.size w1 w2) := B2
  have HE2 : Hid (ErrT w2) := HE.out.below B2
  obtain ⟨KI, FI, hKI, HFI⟩ := due_ex m V now
  have HF : Hid (∀ k W, DueR m V now k W → k = KI ∧ ∀ i, i < k → W i = FI i) := HFI
  clear RA B2 HC HE hV HFI
  go_wp2_with fail
  refine (specDue_any (some ⟨g, 0, none⟩) m cap V now _ (by omega) HV).mono ?_
  rintro e w3 ⟨s3, c3, k3, W3, rfl, O3, D3, B3⟩
  obtain ⟨e3, f3⟩ := HF.out k3 W3 D3
  subst e3
  have HW : Hid (RowI w3 s3 k3 FI) := (O3.congr f3).row
  replace HV : Hid (RowTest w3 (some ⟨g, 0, none⟩) m V) := HV.out.below B3
  replace HE2 : Hid (ErrT w3) := HE2.out.below B3
  replace HB : Hid (Below w1.heap.size w1 w3) := HB.out.trans (B3.mono HB.out.size)
  clear O3 D3 B3 f3
  go_wp2_with fail
  refine (implDue_any (some ⟨g, 0, none⟩) m cap V now _ (by omega) HV HE2).mono ?_
  rintro e w4 ⟨s4, c4, k4, W4, rfl, O4, D4, B4⟩
  obtain ⟨e4, f4⟩ := HF.out k4 W4 D4
  subst e4
  have HL : Hid (RowI w4 s4 k4 FI) := (O4.congr f4).row
  have HQ : Hid ((∀ i, i < k4 → ∃ x : Nat, x < m ∧ FI i = (x : Int) ∧ 0 ≤ byd V now x ∧ duB m V now = true) ∧ ∀ i, i + 1 < k4 → byd V now (FI (i + 1)).toNat ≤ byd V now (FI i).toNat) := due_read D4 f4
  replace HV : Hid (RowTest w4 (some ⟨g, 0, none⟩) m V) := HV.out.below B4
  replace HW : Hid (RowI w4 s3 k4 FI) := HW.out.below B4
  replace HB : Hid (Below w1.heap.size w1 w4) := HB.out.trans (B4.mono HB.out.size)
  clear O4 D4 B4 f4 HE2 HF
  go_wp2_with fail
  refine (sameInts_any s4 s3 k4 c4 c3 FI _ (by omega) HL HW).mono ?_
  rintro e w5 ⟨rfl, B5⟩
  replace HV : Hid (RowTest w5 (some ⟨g, 0, none⟩) m V) := HV.out.below B5
  replace HL : Hid (RowI w5 s4 k4 FI) := HL.out.below B5
  replace HB : Hid (Below w1.heap.size w1 w5) := HB.out.trans (B5.mono HB.out.size)
  clear B5 HW
  go_wp2_with fail
  go_loopw [7] (fun i wr => ∃ j : Nat, j ≤ k4 ∧ i = .int .i64 j ∧ Hid (Below w5.heap.size w5 wr)) (fun i _ => k4 - (intOf i).toNat)
  case atStart => exact ⟨0, Nat.zero_le _, rfl, Below.refl _ _⟩
  case round =>
    obtain ⟨j, hj, rfl, HB6⟩ := hrel
    rename World => wr
    by_cases h1 : j < k4
    case neg =>
      obtain rfl : j = k4 := by omega
      have BF : Below w1.heap.size w1 wr := HB.out.trans (HB6.out.mono HB.out.size)
      go_wp2
      go_ret
      exact ⟨rfl, (by repeat (first | with_reducible exact Below.refl _ _ | with_reducible exact BF | with_reducible refine Below.setCell ?_ (by first | omega | (simp; done) | (simp; omega)) _ | with_reducible refine bDrewN ?_ _ | with_reducible refine Below.drew ?_ | with_reducible refine Below.alloc ?_ (by first | omega | (simp; done) | (simp; omega)) _))⟩
    obtain ⟨x, hx, ex, bx, du⟩ := HQ.out.1 j h1
    obtain ⟨hN, n6, hT⟩ := du_yes du
    obtain ⟨hN1, hN2⟩ := hN
    obtain ⟨⟨t1, t2⟩, t3, t4⟩ := tst_yes (hT x hx)
    obtain ⟨g1, o1, e1, zg, c0, c1⟩ := HV.out x hx
    cases e1
    obtain ⟨g2, o2, e2, z2, d0⟩ := HL.out j h1
    subst e2
    rw [ex] at d0
    replace c0 := (HB6.out.cell (p := ⟨g, 0 + x * 2, none⟩) zg).trans c0
    replace c1 := (HB6.out.cell (p := ⟨g, 0 + x * 2 + 1, none⟩) zg).trans c1
    replace d0 := (HB6.out.cell (p := ⟨g2, o2 + j, none⟩) z2).trans d0
    replace zg := Nat.lt_of_lt_of_le zg HB6.out.size
    replace z2 := Nat.lt_of_lt_of_le z2 HB6.out.size
    have hxm : (x : Int) < (m : Int) := by omega
    have j1 : (j : Int) < (k4 : Int) := by omega
    have HBX : Hid (byd V now x = now - (V x).2 - (V x).1) := rfl
    obtain ⟨⟨a, b⟩, hVx⟩ : ∃ z, V x = z := ⟨_, rfl⟩
    rw [hVx] at c0 c1 t1 t2 t3 t4 HBX
    simp only [Nat.zero_add] at c0 c1 t1 t2 t3 t4
    replace HBX : Hid (byd V now x = now - b - a) := HBX.out
    rw [HBX.out] at bx
    have q0 : decide (now - b - a < 0) = false := decide_eq_false (by omega)
    clear hVx
    by_cases j0 : j = 0
    case pos =>
      have q1 : decide ((0 : Int) < (j : Int)) = false := decide_eq_false (by omega)
      have q1n : decide (0 < j) = false := decide_eq_false (by omega)
      clear j0 ex
      go_upto_region 11 with fail
      go_quiet (fail)
      go_upto_region 12 with fail
      go_quiet (fail)
      go_wp2
      go_roundw
      case rel => exact ⟨j + 1, by omega, by go_num, by have hb_ := HB6.out; exact (show Below _ _ _ from (by repeat (first | with_reducible exact Below.refl _ _ | with_reducible exact hb_ | with_reducible refine Below.setCell ?_ (by first | omega | (simp; done) | (simp; omega)) _ | with_reducible refine bDrewN ?_ _ | with_reducible refine Below.drew ?_ | with_reducible refine Below.alloc ?_ (by first | omega | (simp; done) | (simp; omega)) _)))⟩
      case measure => first | (simp [intOf]; done) | (simp [intOf]; omega)
    case neg =>
      obtain ⟨p, hp⟩ : ∃ p, j = p + 1 := ⟨j - 1, by omega⟩
      obtain ⟨y, hy, ey, bY, _⟩ := HQ.out.1 p (by omega)
      obtain ⟨⟨u1, u2⟩, u3, u4⟩ := tst_yes (hT y hy)
      obtain ⟨g3, o3, e3, zg3, c2, c3'⟩ := HV.out y hy
      cases e3
      obtain ⟨g4, o4, e4, _, d1⟩ := HL.out p (by omega)
      cases e4
      rw [ey] at d1
      replace c2 := (HB6.out.cell (p := ⟨g, 0 + y * 2, none⟩) zg3).trans c2
      replace c3' := (HB6.out.cell (p := ⟨g, 0 + y * 2 + 1, none⟩) zg3).trans c3'
      replace d1 := (HB6.out.cell (p := ⟨g2, o2 + p, none⟩) (by assumption)).trans d1
      have hym : (y : Int) < (m : Int) := by omega
      have jp : (j : Int) - 1 = (p : Int) := by omega
      have wp1 : IntKind.i64.wrap ((j : Int) - 1) = (p : Int) := by rw [IntKind.wrap_i64]; omega
      have p1 : (p : Int) < (k4 : Int) := by omega
      have ord := HQ.out.2 p (by omega)
      rw [← hp, ex, ey, Int.toNat_natCast, Int.toNat_natCast, HBX.out] at ord
      have HBYy : Hid (byd V now y = now - (V y).2 - (V y).1) := rfl
      obtain ⟨⟨a2, b2⟩, hVy⟩ : ∃ z, V y = z := ⟨_, rfl⟩
      rw [hVy] at c2 c3' u1 u2 u3 u4 HBYy
      simp only [Nat.zero_add] at c2 c3' u1 u2 u3 u4
      replace HBYy : Hid (byd V now y = now - b2 - a2) := HBYy.out
      rw [HBYy.out] at ord bY
      have q1 : decide ((0 : Int) < (j : Int)) = true := decide_eq_true (by omega)
      have q1n : decide (0 < j) = true := decide_eq_true (by omega)
      have q2 : decide (now - b2 - a2 < now - b - a) = false := decide_eq_false (by omega)
      clear hVy hp j0 ex ey
      go_upto_region 11 with fail
      go_quiet (fail)
      go_upto_region 12 with fail
      go_quiet (fail)
      go_wp2
      go_roundw
      case rel => exact ⟨j + 1, by omega, by go_num, by have hb_ := HB6.out; exact (show Below _ _ _ from (by repeat (first | with_reducible exact Below.refl _ _ | with_reducible exact hb_ | with_reducible refine Below.setCell ?_ (by first | omega | (simp; done) | (simp; omega)) _ | with_reducible refine bDrewN ?_ _ | with_reducible refine Below.drew ?_ | with_reducible refine Below.alloc ?_ (by first | omega | (simp; done) | (simp; omega)) _)))⟩
      case measure => first | (simp [intOf]; done) | (simp [intOf]; omega)
theorem fnDue_walk (w : World) (s : Option Addr) (n c : Nat) (hn : n ≤ 9223372036854775807) (R : Bytes w s n) (HWd : ErrT w) :
    Calls Tryd.prog 4 #[.slice s n c] w fun e w' => e = .returned (.bool true) ∧ Below w.heap.size w w' := by
  by_cases h : n ≤ 1048576
  · exact due_near w s n c (by omega) (R.code h) HWd
  · exact due_far w s n c (by omega)

theorem fnDue_star : "*" ++ "errors.errorString" = "*errors.errorString" := by decide
theorem fnDue_ptr (u : TypeId) (h : Tryd.prog.typeName? 3 u = some "*errors.errorString") : u = 145 :=
  typeName_ptr_named (nm := "errors.errorString") (by rw [fnDue_star]; kernel_rfl) (by kernel_rfl) (by decide) u (by rw [fnDue_star]; exact h)
theorem fnDue_lt {W : World} {g : Nat} {v : Value} (h : W.cell? ⟨g, 0, none⟩ = some v) : g < W.heap.size := by
  rcases Nat.lt_or_ge g W.heap.size with k | k
  · exact k
  · simp [World.cell?, Array.getElem?_eq_none k] at h
theorem fnDue_errs {W : World} (h : laidMetH Tryd.prog Rows.fnDueRow.laid W) : ErrT W := by
  have h' : laidMet Tryd.prog Rows.fnDueRow.laid.tail W ∧ handlesMet Tryd.prog (Rows.fnDueRow.laid.take 1) W := h
  obtain ⟨name, u, ty, e1, e2, e3, e4, e5⟩ := h'.2 _ (List.mem_singleton.2 rfl)
  have en : name = [101, 114, 114, 111, 114] := (Option.some.inj e1).symm
  subst en
  have eu : u = 130 := by
    have h2 : some u = some 130 := e2.symm.trans (by kernel_rfl)
    exact Option.some.inj h2
  subst eu
  have sz : Tryd.prog.types.size = 185 := by kernel_rfl
  have one : ((List.range 185).filter fun t => Tryd.prog.rowNamed t [101, 114, 114, 111, 114]) = [64] := by kernel_rfl
  have hm : ty ∈ (List.range 185).filter fun t => Tryd.prog.rowNamed t [101, 114, 114, 111, 114] := List.mem_filter.2 ⟨List.mem_range.2 (by rw [← sz]; exact e3), e4⟩
  rw [one] at hm
  obtain rfl := List.mem_singleton.1 hm
  have hh : typeHandle Tryd.prog 64 = .pointer (some ⟨7, 64, none⟩) := by kernel_rfl
  rw [hh] at e5
  have ce : W.cell? ⟨6, 0, none⟩ = some (.iface 130 (.agg #[.pointer (some ⟨7, 64, none⟩)])) := by simpa using World.var?_cell (g := 6) (by kernel_rfl) e5 0
  have l0 := h'.1
  obtain ⟨a0, s0, hv0, -, -, -⟩ := laid_sentinel (g := 0) (ti := 64) (tp := 145) (te := 168) (ts := 9) l0 (by kernel_rfl) (by kernel_rfl) Tryd.underlying64 fnDue_ptr Tryd.underlying145 Tryd.underlying168 rfl rfl Tryd.underlying9 (by kernel_rfl) (by kernel_rfl)
  have c0 : W.cell? ⟨0, 0, none⟩ = some (.iface 145 (.pointer (some a0))) := by simpa using World.var?_cell (g := 0) (by kernel_rfl) hv0 0
  have l1 := cells_of_tail l0
  obtain ⟨a1, s1, hv1, -, -, -⟩ := laid_sentinel (g := 1) (ti := 64) (tp := 145) (te := 168) (ts := 9) l1 (by kernel_rfl) (by kernel_rfl) Tryd.underlying64 fnDue_ptr Tryd.underlying145 Tryd.underlying168 rfl rfl Tryd.underlying9 (by kernel_rfl) (by kernel_rfl)
  have c1 : W.cell? ⟨1, 0, none⟩ = some (.iface 145 (.pointer (some a1))) := by simpa using World.var?_cell (g := 1) (by kernel_rfl) hv1 0
  exact ⟨⟨fnDue_lt ce, ce⟩, ⟨fnDue_lt c0, _, _, c0⟩, ⟨fnDue_lt c1, _, _, c1⟩⟩
theorem fnDue_vars {H : Type} {enc : TypeId × Value → H} {P : Program} {w : World} {sp : Nat → Bool} : ∀ {ns : List String} {gs : List (DataW H)} {ps : List MemPlace}, DataW.TrodVars enc P w sp ns gs ps → gs.length = ns.length
  | [], [], _, _ => rfl
  | [], _ :: _, _, h => h.elim
  | _ :: _, [], _, h => h.elim
  | _ :: _, _ :: _, _, ⟨_, _, _, _, _, _, _, _, _, _, hs, _⟩ => by simp [fnDue_vars hs]
theorem fnDue_contract (H : Type) (enc : TypeId × Value → H) (W : World) (base : Nat) (args : Array Value) (ds gs : List (DataW H)) (before : List MemPlace)
    (hval : ∀ (j : Nat) t v, Tryd.f4.params[j]? = some t → args[j]? = some v → Value.okWide Tryd.prog W .any base t v)
    (hW : DataW.Whole enc Tryd.prog Tryd.f4.params.toList Rows.fnDueSpec.vars false W args.toList ds gs before) (hL : laidMetH Tryd.prog Rows.fnDueRow.laid W) :
    Calls Tryd.prog 4 args W fun e W' => ∃ v, e = .returned v ∧ Rows.fnDueSpec.post enc Tryd.prog Tryd.f4 false true false false W args v W' := by
  have hW' := hW
  obtain ⟨p, q, hA0, hV, rfl, hfz, hnd⟩ := hW
  have hA : DataW.TrodAll enc Tryd.prog W 0 (fun _ => true) true Tryd.f4.params.toList args.toList ds p := hA0
  rw [Tryd.params4] at hA hval
  obtain ⟨v0, vs0, d0, ds0, p0, q0, hargs, rfl, rfl, h0, r0⟩ := trodAll_cons hA
  obtain ⟨rfl, rfl, rfl⟩ := trodAll_nil r0
  obtain rfl : args = #[v0] := by cases args; simp_all
  have hV2 := hV
  have hlen := fnDue_vars hV
  obtain ⟨y0, y1, rfl⟩ : ∃ y0 y1, gs = [y0, y1] := by
    have hl : gs.length = 2 := hlen.trans (by kernel_rfl)
    rcases gs with _ | ⟨y0, _ | ⟨y1, _ | ⟨z, r⟩⟩⟩
    · cases hl
    · cases hl
    · exact ⟨_, _, rfl⟩
    · simp at hl
  have k0 := h0
  have lt0 : ∀ x ∈ p0, x.block < W.heap.size := by obtain ⟨m, hm⟩ := k0; exact DataW.trod_lt m _ _ _ hm
  obtain ⟨s0, n0, c0, rfl, m0, R0⟩ := open_code Tryd.underlying22 Tryd.underlying5 (by kernel_rfl) (hval 0 22 v0 rfl rfl) h0
  clear hA0
  refine (fnDue_walk W s0 n0 c0 m0 R0 (fnDue_errs hL)).mono fun e W' ⟨he, bel⟩ => ?_
  subst he
  exact ⟨_, rfl, _, _, _, [], _, q, hW', trodAll_mk1 (shut_bool Tryd.underlying4 _), (trodAll_cons_mk (Below.trod laidOut (by kernel_rfl) (of_decide_eq_true (by kernel_rfl)) k0 bel lt0) trodAll_mk0), Below.trodVars laidOut bel (by kernel_rfl) hV2, bel.frame _, fun h => by cases h⟩
set_option maxRecDepth 100000 in
theorem fnDue_lifted (os : Os) (started : os.Started) (H : Type) (enc : TypeId × Value → H) (F : Stop.Interp) :
    ReturnsInHanded {} Tryd.checked os 4 .any ((OpenSpec.ofChange Rows.fnDueSpec).preRow enc Tryd.prog Tryd.f4 Rows.fnDueRow.domain false Rows.fnDueRow.laid) (((OpenSpec.ofChange Rows.fnDueSpec).at F).post enc Tryd.prog Tryd.f4 false true false false) := by
  refine returnsInHanded_of_row (C := Tryd.checked) (s := OpenSpec.ofChange Rows.fnDueSpec) own started (by kernel_rfl) Tryd.func4
    (witness_row_at (enc := enc) (C := Tryd.checked) false ({ World.holding Tryd.prog os ⟨#[.cells #[.string { data := #[110, 111, 116, 32, 97, 115, 32, 109, 97, 110, 121, 32, 97, 115, 32, 116, 104, 101, 114, 101, 32, 109, 97, 121, 32, 98, 101] }] 168, .cells #[.string { data := #[97, 32, 110, 117, 109, 98, 101, 114, 32, 116, 104, 97, 116, 32, 105, 115, 32, 111, 117, 116, 32, 111, 102, 32, 105, 116, 115, 32, 98, 111, 117, 110, 100, 115] }] 168], #[], []⟩ with heap := ((((World.holding Tryd.prog os ⟨#[.cells #[.string { data := #[110, 111, 116, 32, 97, 115, 32, 109, 97, 110, 121, 32, 97, 115, 32, 116, 104, 101, 114, 101, 32, 109, 97, 121, 32, 98, 101] }] 168, .cells #[.string { data := #[97, 32, 110, 117, 109, 98, 101, 114, 32, 116, 104, 97, 116, 32, 105, 115, 32, 111, 117, 116, 32, 111, 102, 32, 105, 116, 115, 32, 98, 111, 117, 110, 100, 115] }] 168], #[], []⟩).heap.modify 6 fun | .cells _ t frozen => .cells #[.iface 130 (.agg #[.pointer (some ⟨7, 64, none⟩)])] t frozen | o => o).modify 0 fun | .cells _ t frozen => .cells #[.iface 145 (.pointer (some ⟨(World.holding Tryd.prog default ⟨#[], #[], []⟩).heap.size + 0, 0, none⟩))] t frozen | o => o).modify 1 fun | .cells _ t frozen => .cells #[.iface 145 (.pointer (some ⟨(World.holding Tryd.prog default ⟨#[], #[], []⟩).heap.size + 1, 0, none⟩))] t frozen | o => o) }) #[.slice none 0 0] rfl (by kernel_rfl) (by kernel_rfl) (by kernel_rfl)
      (OpenSpec.preRow_of_B rfl 8 (by kernel_rfl) (by kernel_rfl) (laidMetH_of_parts (laidMet_of_run' 8 (by kernel_rfl) (by kernel_rfl)) (by kernel_rfl)))) ?_
  intro W base args ds gs before hval hW _ _ _ hL _ _
  exact fnDue_contract H enc W base args ds gs before hval hW hL
theorem fnDue_said : Rows.FnDueSaid :=
  OpenClaim.holds_of_cond 4 Tryd.f4 rfl rfl rfl rfl rfl rfl rfl ⟨rfl, rfl, rfl, rfl, rfl⟩ rfl rfl rfl rfl rfl (by kernel_rfl) Tryd.func4 (by kernel_rfl)
    (of_decide_eq_true (by kernel_rfl)) (by unfold Func.isWrapper; first | (rw [if_pos (by decide +kernel)]; kernel_rfl) | (rw [if_neg (by decide +kernel)]; exact ⟨rfl, rfl⟩))
    (fun os started H enc _ F => by rw [OpenClaim.pre_eq_preRow]; exact fnDue_lifted os started H enc F)
theorem fnDue_plain (f : FuncId) (fn : Func) (hf : Tryd.pinned.checked.prog.funcNamed Rows.fnDueRow.func = some f) (hfn : Tryd.pinned.checked.prog.funcs[f]? = some fn) :
    true = Tryd.pinned.checked.prog.looks [] ∧ ∀ (j : Nat) t, fn.params[j]? = some t → Tryd.pinned.checked.prog.wantsStandIn t = false := by
  obtain rfl : f = 4 := Option.some.inj ((show Tryd.prog.funcNamed Rows.fnDueRow.func = some 4 by kernel_rfl).symm.trans hf) |>.symm
  obtain rfl : fn = Tryd.f4 := (Option.some.inj (Tryd.func4.symm.trans hfn)).symm
  refine ⟨by kernel_rfl, fun j t ht => ?_⟩
  have hall : Tryd.f4.params.toList.all (fun t => !Tryd.prog.wantsStandIn t) = true := by kernel_rfl
  have hmem := Array.mem_of_getElem? ht
  have := List.all_eq_true.1 hall t (Array.mem_toList_iff.2 hmem)
  have this2 : Tryd.prog.wantsStandIn t = false := by simpa using this
  exact this2
theorem fnDue_holds : Rows.FnDueCardSaid :=
  Claim7.holds_tied_plain_at .later [] _ _ _ _ fnDue_said (fun _ h => by cases h) (by kernel_rfl) (fun _ h => by cases h) fnDue_row_tie rfl ⟨rfl, rfl⟩ (by kernel_rfl) rfl fnDue_plain (by kernel_rfl)
#print axioms fnDue_holds
end Go.Proofs.YtfhbkfdfggaomabDoor
