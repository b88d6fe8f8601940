/-
What is proved: a list of floats as the program's instruments; the places at which they drift, as the program tells them.
-/
import Derived.Test.YtdolcdedogienaaDri
import Derived.Test.YtdolcdedogienaaIns
namespace Go.Proofs.Ytdolcdedogienaa
set_option maxRecDepth 40000
open Go.RowKit
set_option linter.unusedVariables false
set_option linter.unusedSimpArgs false

theorem own_empty (base : Nat) (w : World) : OwnI base w none ([] : List Int).length (nthI []) := fun j hj => by simp at hj
/-- A row of instruments. -/
def RowN (w : World) (s : Option Addr) (m : Nat) (V : Nat → Option Nat) : Prop := ∀ j, j < m → ∃ b o x, s = some ⟨b, o, none⟩ ∧ b < w.heap.size ∧ w.cell? ⟨b, o + j, none⟩ = some (insV x) ∧ Fl x (V j)
theorem RowN.below {w w' : World} {s : Option Addr} {m : Nat} {V : Nat → Option Nat} (h : RowN w s m V) (hb : Below w.heap.size w w') : RowN w' s m V := fun j hj => by
  obtain ⟨b, o, x, e, hl, hc, hx⟩ := h j hj
  exact ⟨b, o, x, e, Nat.lt_of_lt_of_le hl hb.size, (hb.cell (p := ⟨b, o + j, none⟩) hl).trans hc, hx⟩
theorem make_ins (n : Nat) (hn : n ≤ 1048576) (w : World) : (Instr.makeSlice 56 (.int .i64 (n : Int)) (.int .i64 (n : Int))).run Try.prog w = .ok (.slice (some ⟨w.heap.size, 0, none⟩) n n) (w.alloc (.cells (madeCells #[.nilIface] n) 53)) := by
  have hinfo : (Try.prog.info? 53).map (fun i => (i.zero, i.size, i.bytes)) = some (some .nilIface, 1, 16) := by kernel_rfl
  obtain ⟨i, hi, hzz⟩ := Option.map_eq_some_iff.1 hinfo
  simp only [Prod.mk.injEq] at hzz
  obtain ⟨hz, hs, hb⟩ := hzz
  have hr := run_make (P := Try.prog) w 56 53 i _ Try.underlying56 hi hz .i64 .i64 n n (by omega) (Int.le_refl _) (by rw [hb]; omega) (by omega)
  simp only [Int.toNat_natCast, hs, Nat.mul_one] at hr
  exact hr
theorem made_ins (n : Nat) : ∀ j, j < n → (madeCells #[.nilIface] n)[j]? = some .nilIface := fun j hj => by
  simp only [madeCells, Array.getElem?_map, Array.getElem?_range, hj, if_true, Option.map_some]
  show some ((#[Value.nilIface] : Array Value)[j % 1]!) = _
  rw [Nat.mod_one]; rfl
theorem store_if : ∀ (W : World) (a : Addr) (t : TypeId) (v : Value), (W.cell? a).isSome = true → W.frozen? a = false → (store a (.iface t v)).run Try.prog W = .ok () (W.setCell a (.iface t v)) := fun W a t v h hf => by
  obtain ⟨u, hu⟩ := Option.isSome_iff_exists.1 h
  rw [run_store Try.prog W a _ _ rfl, hu]; simp [hf]
theorem assert_yes (x : Nat) (w : World) : Sem.run Try.prog (Instr.typeAssert (.iface 60 (.float .f64 x)) 53 60 true) w = .ok (.tuple #[.float .f64 x, .bool true]) w := by kernel_rfl
theorem assert_no (w : World) : Sem.run Try.prog (Instr.typeAssert (.iface 62 (.agg #[])) 53 60 true) w = .ok (.tuple #[.float .f64 0, .bool false]) w := by kernel_rfl
def InTo (w wr : World) (n k : Nat) (V : Nat → Option Nat) : Prop := Below w.heap.size w wr ∧ w.heap.size < wr.heap.size ∧ (∀ o, wr.frozen? ⟨w.heap.size, o, none⟩ = false) ∧ ∀ j, j < n → ∃ u, wr.cell? ⟨w.heap.size, j, none⟩ = some u ∧ (j < k → ∃ x, u = insV x ∧ Fl x (V j))
theorem inTo_start (w : World) (n : Nat) (V : Nat → Option Nat) (t : TypeId) : InTo w (w.alloc (.cells (madeCells #[.nilIface] n) t)) n 0 V :=
  ⟨below0 _ _, by simp, fun o => by simp [go_sem], fun j hj => ⟨.nilIface, by simpa [go_sem] using made_ins n j hj, fun h => by omega⟩⟩
theorem inTo_keep {w wr w3 : World} {n k : Nat} {V : Nat → Option Nat} (h : InTo w wr n k V) (h3 : Below wr.heap.size wr w3) : InTo w w3 n k V := by
  obtain ⟨hB, hz, hf, hc⟩ := h
  refine ⟨hB.trans (h3.mono (by omega)), Nat.lt_of_lt_of_le hz h3.size, fun o => (h3.frozen (p := ⟨w.heap.size, o, none⟩) hz).trans (hf o), fun j hj => ?_⟩
  obtain ⟨x, c, hx⟩ := hc j hj
  exact ⟨x, (h3.cell (p := ⟨w.heap.size, j, none⟩) hz).trans c, hx⟩
theorem inTo_set {w wr : World} {n k : Nat} {V : Nat → Option Nat} {x : Nat} (h : InTo w wr n k V) (hx : Fl x (V k)) : InTo w (wr.setCell ⟨w.heap.size, k, none⟩ (insV x)) n (k + 1) V := by
  obtain ⟨hB, hz, hf, hc⟩ := h
  refine ⟨(by repeat (first | with_reducible exact Below.refl _ _ | with_reducible exact hB | with_reducible refine Below.setCell ?_ (by first | omega | (simp; done) | (simp; omega)) _ | with_reducible refine bDrewN ?_ _ | with_reducible refine Below.drew ?_ | with_reducible refine Below.alloc ?_ (by first | omega | (simp; done) | (simp; omega)) _)), by simpa using hz, fun o => by simp [go_sem, hf], fun j hj => ?_⟩
  obtain ⟨y, c, hy⟩ := hc j hj
  by_cases b : j = k
  · subst b
    exact ⟨insV x, by simp [go_sem, c], fun _ => ⟨x, rfl, hx⟩⟩
  · exact ⟨y, by simp [go_sem, c, b], fun h => hy (by omega)⟩
set_option maxRecDepth 20000 in
set_option maxHeartbeats 2000000 in
theorem instrumentsOf_any (s : Option Addr) (n c : Nat) (V : Nat → Option Nat) (w : World) (hn : (n : Int) ≤ 1048576) (HR : Hid (RowF w s n V)) :
    Calls Try.prog 39 #[.slice s n c] w fun e w' => e = .returned (.slice (some ⟨w.heap.size, 0, none⟩) n n) ∧ RowN w' (some ⟨w.heap.size, 0, none⟩) n V ∧ Below w.heap.size w w' := by
  have hmk := make_ins n (by omega)
  have sto := store_if
  go_enter Try.func39, Try.ntmps39
  go_wp2_with fail
  go_loopw [11] (fun i wr => ∃ k : Nat, k ≤ n ∧ i = .int .i64 k ∧ InTo w wr n k V) (fun i _ => n - (intOf i).toNat)
  case atStart => exact ⟨0, Nat.zero_le _, rfl, inTo_start w n V _⟩
  case round =>
    obtain ⟨k, hk, rfl, hR⟩ := hrel
    have HT : Hid (InTo w wr n k V) := hR
    obtain ⟨hB, hz, hf, hc⟩ := hR
    by_cases h1 : k < n
    · obtain ⟨g, o, x, rfl, hg, c0, hx⟩ := HR.out k h1
      have d0 : wr.cell? ⟨g, o + k, none⟩ = some (.float .f64 x) := (hB.cell (p := ⟨g, o + k, none⟩) hg).trans c0
      have k1 : (k : Int) < (n : Int) := by omega
      have HX : Hid (Fl x (V k)) := hx
      have lx := hx.1
      obtain ⟨u0, f0, -⟩ := hc k h1
      have fz := hf k
      clear hc hB c0 hg hx hf
      go_wp2_with fail
      refine (instrumentOf_any x lx _).mono ?_
      rintro e w1 ⟨rfl, n1, rfl⟩
      cases hb : knownB x
      · have e2 : insV x = .iface 62 (.agg #[]) := by unfold insV; rw [hb]; rfl
        rw [e2]
        have E2 : Hid _ := e2
        clear e2 hb
        go_wp2
        go_roundw
        case rel => exact ⟨k + 1, by omega, by go_num, by have h := inTo_set (inTo_keep HT.out (w3 := wr.drewN n1) (by repeat (first | with_reducible exact Below.refl _ _ | with_reducible refine Below.setCell ?_ (by first | omega | (simp; done) | (simp; omega)) _ | with_reducible refine bDrewN ?_ _ | with_reducible refine Below.drew ?_ | with_reducible refine Below.alloc ?_ (by first | omega | (simp; done) | (simp; omega)) _))) HX.out; rw [E2.out] at h; exact h⟩
        case measure => simp [intOf]; omega
      · have e2 : insV x = .iface 60 (.float .f64 x) := by unfold insV; rw [hb]; rfl
        rw [e2]
        have E2 : Hid _ := e2
        clear e2 hb
        go_wp2
        go_roundw
        case rel => exact ⟨k + 1, by omega, by go_num, by have h := inTo_set (inTo_keep HT.out (w3 := wr.drewN n1) (by repeat (first | with_reducible exact Below.refl _ _ | with_reducible refine Below.setCell ?_ (by first | omega | (simp; done) | (simp; omega)) _ | with_reducible refine bDrewN ?_ _ | with_reducible refine Below.drew ?_ | with_reducible refine Below.alloc ?_ (by first | omega | (simp; done) | (simp; omega)) _))) HX.out; rw [E2.out] at h; exact h⟩
        case measure => simp [intOf]; omega
    · obtain rfl : k = n := by omega
      go_wp2
      go_ret
      exact ⟨rfl, fun j hj => by obtain ⟨u, c, hu⟩ := hc j hj; obtain ⟨x, rfl, hx⟩ := hu hj; exact ⟨_, 0, x, rfl, hz, by rw [Nat.zero_add]; exact c, hx⟩, hB⟩
/-- The instrument ahead. -/
def BefV (b : Value) (o : Option Nat) : Prop := (o = none ∧ b = .iface 62 (.agg #[])) ∨ ∃ x, b = .iface 60 (.float .f64 x) ∧ Fl x o
set_option maxRecDepth 20000 in
set_option maxHeartbeats 4000000 in
theorem driftPlaces_any (s : Option Addr) (n c : Nat) (V : Nat → Option Nat) (z : Nat) (a : Option Nat) (hz : Fl z a) (w : World) (hn : (n : Int) ≤ 1000) (HR : Hid (RowN w s n V)) :
    Calls Try.prog 38 #[.slice s n c, .float .f64 z] w fun e w' => ∃ s' c', e = .returned (.slice s' (drL V a n).length c') ∧ OwnI w.heap.size w' s' (drL V a n).length (nthI (drL V a n)) ∧ Below w.heap.size w w' := by
  have ty := assert_yes
  have tn := assert_no
  go_enter Try.func38, Try.ntmps38
  go_wp2_with fail
  go_loopw [5, 6, 15] (fun v b i wr => ∃ (k : Nat), k ≤ n ∧ i = .int .i64 k ∧ BefV b (lastO V k) ∧ MadeL w.heap.size 0 0 w wr v (drL V a k)) (fun _ _ i _ => n - (intOf i).toNat)
  case atStart => exact ⟨0, Nat.zero_le _, rfl, .inl ⟨rfl, rfl⟩, madeL_nil w⟩
  case round =>
    obtain ⟨k, hk, rfl, hb, hM⟩ := hrel
    have HM : Hid (MadeL w.heap.size 0 0 w wr u5 (drL V a k)) := hM
    have HO : Hid (wr.ownsRow w.heap.size 2 1 u5 (drL V a k).length (cellsOf (drL V a k))) := hM.1
    have hB : Below w.heap.size w wr := hM.2.1
    have zB := hB.size
    have hl := drL_le V a k
    have HBV : Hid (BefV u6 (lastO V k)) := hb
    clear hM hb
    by_cases hlt : k < n
    · have k1 : (k : Int) < (n : Int) := by omega
      obtain ⟨g, o, x, rfl, hgl, c0, hx⟩ := HR.out k hlt
      have d0 : wr.cell? ⟨g, o + k, none⟩ = some (insV x) := (hB.cell (p := ⟨g, o + k, none⟩) hgl).trans c0
      have HX : Hid (knownB x = knP (V k)) := knownP_fl hx
      clear c0
      cases hb : knownB x with
      | false =>
        have kn : knP (V k) = false := HX.out.symm.trans hb
        have E1 : Hid (lastO V (k + 1) = lastO V k) := last_no kn
        have E2 : Hid (drL V a (k + 1) = drL V a k) := dr_no (by unfold driftAt; rw [kn]; rfl)
        have e2 : insV x = .iface 62 (.agg #[]) := by unfold insV; rw [hb]; rfl
        rw [e2] at d0
        clear kn e2 hb hx
        go_wp2
        go_roundw
        case rel => exact ⟨k + 1, by omega, by go_num, by rw [E1.out]; exact HBV.out, by rw [E2.out]; exact HM.out⟩
        case measure => simp [intOf]; omega
      | true =>
        have kn : knP (V k) = true := HX.out.symm.trans hb
        have E1 : Hid (lastO V (k + 1) = V k) := last_yes kn
        have HD : Hid (driftAt V a k = farO (lastO V k) (V k) a) := show driftAt V a k = farO (lastO V k) (V k) a by unfold driftAt; rw [kn, far_comm]; rfl
        have e2 : insV x = .iface 60 (.float .f64 x) := by unfold insV; rw [hb]; rfl
        rw [e2] at d0
        have HXF : Hid (Fl x (V k)) := hx
        clear kn e2 hb
        rcases HBV.out with ⟨q1, q2⟩ | ⟨y, q2, hy⟩
        · subst q2
          have E2 : Hid (drL V a (k + 1) = drL V a k) := dr_no (by rw [HD.out, q1]; unfold farO distO; cases V k <;> rfl)
          clear q1 HBV
          go_wp2_with fail
          refine upon_run (a := (64, Value.agg #[])) (w' := wr) (by kernel_rfl) ?_
          go_wp2_with fail
          refine (farB_any x z _).mono ?_
          rintro e w2 ⟨rfl, h2⟩
          go_wp2
          go_roundw
          case rel => exact ⟨k + 1, by omega, by go_num, .inr ⟨x, rfl, by rw [E1.out]; exact HXF.out⟩, by rw [E2.out]; exact MadeL.belowD HM.out h2 zB⟩
          case measure => simp [intOf]; omega
        · subst q2
          clear HBV
          go_wp2_with fail
          refine upon_run (a := (61, Value.float .f64 y)) (w' := wr) (by kernel_rfl) ?_
          go_wp2_with fail
          refine (farW_any hy hx hz _).mono ?_
          rintro e w2 ⟨rfl, h2⟩
          have z2 : w.heap.size ≤ w2.heap.size := Nat.le_trans zB h2.size
          cases hq : farO (lastO V k) (V k) a
          · have E2 : Hid (drL V a (k + 1) = drL V a k) := dr_no (HD.out.trans hq)
            go_wp2
            go_roundw
            case rel => exact ⟨k + 1, by omega, by go_num, .inr ⟨x, rfl, by rw [E1.out]; exact HXF.out⟩, by rw [E2.out]; exact MadeL.belowD HM.out h2 zB⟩
            case measure => simp [intOf]; omega
          · have E2 : Hid (drL V a (k + 1) = drL V a k ++ [(k : Int)]) := dr_yes (HD.out.trans hq)
            go_wp2_with (at_builtin; refine list_i64h w.heap.size u5 (drL V a k).length (cellsOf (drL V a k)) (.tmp 30) (.tmp 32) (by rfl) (by rfl) (by rfl) (by rfl) (own_belowD HO.out h2) (by omega) z2 ?_; intro g' cap' w3 hown3 hgrow3 hlt3 hat3)
            go_roundw
            case rel => exact ⟨k + 1, by omega, by go_num, .inr ⟨x, rfl, by rw [E1.out]; exact HXF.out⟩, by rw [E2.out]; exact madeL_on HM.out h2 zB (by omega) hown3 hgrow3 hat3⟩
            case measure => simp [intOf]; omega
    · have e0 : k = n := by omega
      obtain ⟨s', cap, rfl, ho, -⟩ := madeL_own HM.out
      subst e0
      have HS : Hid (OwnI w.heap.size wr s' (drL V a k).length (nthI (drL V a k))) := ho
      clear ho HO HM
      go_wp2
      go_ret
      first | exact ⟨_, _, rfl, HS.out, hB⟩ | exact ⟨_, ⟨_, rfl⟩, HS.out, hB⟩
set_option maxHeartbeats 2000000 in
theorem implDri_any (s : Option Addr) (n c : Nat) (V : Nat → Option Nat) (z : Nat) (a : Option Nat) (hz : Fl z a) (w : World) (hn : (n : Int) ≤ 1048576) (HR : Hid (RowF w s n V)) :
    Calls Try.prog 23 #[.slice s n c, .float .f64 z] w fun e w' => ∃ l s' c', DrV n V a l ∧ e = .returned (.slice s' l.length c') ∧ OwnI w.heap.size w' s' l.length (nthI l) ∧ Below w.heap.size w w' := by
  by_cases hm : 1000 < n
  · have m1 : (1000 : Int) < (n : Int) := by omega
    go_enter Try.func23, Try.ntmps23
    go_wp2
    go_ret
    exact ⟨[], none, 0, .inr ⟨fun h => by have := h.1; omega, rfl⟩, rfl, own_empty _ _, (by repeat (first | with_reducible exact Below.refl _ _ | with_reducible refine Below.setCell ?_ (by first | omega | (simp; done) | (simp; omega)) _ | with_reducible refine bDrewN ?_ _ | with_reducible refine Below.drew ?_ | with_reducible refine Below.alloc ?_ (by first | omega | (simp; done) | (simp; omega)) _))⟩
  have m1 : (n : Int) ≤ 1000 := by omega
  have N : Hid (∀ w, Calls Try.prog 37 #[.float .f64 z] w fun e w' => e = .returned (.bool (decide (INF < rg z))) ∧ w' = w) := fun w => isNaN_any z w
  by_cases hq : INF < rg z
  · rw [decide_eq_true hq] at N
    have HA : Hid (a = none) := show a = none by
      rcases hz.2 with ⟨p, rfl⟩ | ⟨p, rfl⟩
      · omega
      · rfl
    go_enter Try.func23, Try.ntmps23
    go_wp2_with fail
    refine (N.out _).mono ?_
    rintro e w1 ⟨rfl, rfl⟩
    go_wp2
    go_ret
    exact ⟨[], none, 0, .inr ⟨fun h => h.2 HA.out, rfl⟩, rfl, own_empty _ _, (by repeat (first | with_reducible exact Below.refl _ _ | with_reducible refine Below.setCell ?_ (by first | omega | (simp; done) | (simp; omega)) _ | with_reducible refine bDrewN ?_ _ | with_reducible refine Below.drew ?_ | with_reducible refine Below.alloc ?_ (by first | omega | (simp; done) | (simp; omega)) _))⟩
  · rw [decide_eq_false hq] at N
    have HG : Hid (goD n a) := show goD n a by
      refine ⟨by omega, ?_⟩
      rcases hz.2 with ⟨p, rfl⟩ | ⟨p, rfl⟩
      · simp
      · omega
    go_enter Try.func23, Try.ntmps23
    go_wp2_with fail
    refine (N.out _).mono ?_
    rintro e w1 ⟨rfl, rfl⟩
    go_wp2_with fail
    refine (instrumentsOf_any s n c V _ hn HR).mono ?_
    rintro e w2 ⟨rfl, hR2, B2⟩
    have HR2 : Hid _ := hR2
    have z2 := B2.size
    clear hR2
    go_wp2_with fail
    refine (driftPlaces_any _ n _ V z a hz _ m1 HR2).mono ?_
    rintro e w3 ⟨s', c', rfl, ho, h3⟩
    have HS : Hid (OwnI w2.heap.size w3 s' (drL V a n).length (nthI (drL V a n))) := ho
    have B3 := B2.trans (h3.mono z2)
    clear ho h3
    go_wp2
    go_ret
    exact ⟨drL V a n, s', c', .inl ⟨HG.out, rfl⟩, rfl, HS.out.mono z2, B3⟩
end Go.Proofs.Ytdolcdedogienaa
