/-
What is proved: lists of bools that a call makes, one appended at a time.
-/
import Derived.Test.YtpaiajeigdifcaaBoM
import Derived.Deep.AppendLies
import Derived.Laws.OwnMore
import Derived.Test.YtpaiajeigdifcaaFl
import Derived.BigQuiet
import Derived.Test.YtpaiajeigdifcaaFlI
import Derived.Deep.RegionHeld3
namespace Go.Proofs.Ytpaiajeigdifcaa
set_option maxRecDepth 40000
open Go.ChangeShapes Go.WideShapes Go.ChangeAt Go.RowKit
set_option linter.unusedVariables false
set_option linter.unusedSimpArgs false

theorem info_bool : (Try.prog.info? 4).map (fun i => (i.zero, i.size, i.bytes)) = some (some (.bool false), 1, 1) := by kernel_rfl
theorem list_bool {ops : Array Oper} {rest : List Oper} {o : Oper} {a : Act} {Q : Exit → Act → World → Prop} {W : World} {t : TypeId} {x : Bool} (base : Nat) (v : Value) (k : Nat) (xs : List Value) (s z : Operand) (hgd : o.guard = none)
    (ho : o.op = .call { callee := .builtin .append, args := #[s, z], argTypes := #[93, 93] }) (hs : a.eval s = v) (hx : a.eval z = .slice (some ⟨W.heap.size, 0, none⟩) 1 1) (hown : W.ownsRow base 4 1 v k xs) (hk : k ≤ 10000000) (hb : base ≤ W.heap.size)
    (h : ∀ g cap w', w'.ownsRow base 4 1 (.slice (some ⟨g, 0, none⟩) (k + 1) cap) (k + 1) (xs ++ [.bool x]) → W.grownBy w' v.ownBlock → g < w'.heap.size → wpList Try.prog ops Q rest (a.put o.dst (.slice (some ⟨g, 0, none⟩) (k + 1) cap)) w') :
    wpList Try.prog ops Q (o :: rest) a (W.alloc (.cells #[.bool x] t)) := by
  obtain ⟨i0, hi, hz0, hz1, hz2⟩ := info_parts info_bool
  refine wpList_append_lies _ hgd s z 93 ho base 4 i0 (.bool false) 1 1 Try.underlying93 hi hz0 hz1 hz2 rfl (by decide) v k xs hs (hown.alloc _) ⟨W.heap.size, 0, none⟩ 1 1 [.bool x] hx rfl (newsOne _ _ _) ?_ (by decide) (by unfold maxLen; omega) (by omega) (by simp; omega) _ rfl ?_
  · intro u hu
    simp at hu
    subst hu; rfl
  · intro g cap w' h1 h2 _ h3
    exact h g cap w' h1 (grown_new h2) h3
/-- A row of bools that the call makes: its first k are V. -/
def valB (V : Nat → Bool) (k : Nat) : List Value := (List.range k).map fun j => .bool (V j)
theorem valB_succ (V : Nat → Bool) (k : Nat) : valB V (k + 1) = valB V k ++ [.bool (V k)] := by simp [valB, List.range_succ]
def MadeB (base : Nat) (w wr : World) (v : Value) (k : Nat) (V : Nat → Bool) : Prop := wr.ownsRow base 4 1 v k (valB V k) ∧ Below base w wr
theorem madeB_lit (w : World) (V : Nat → Bool) {base : Nat} (hb : base ≤ w.heap.size) : MadeB base w (w.alloc (.cells #[] 4)) (.slice (some ⟨w.heap.size, 0, none⟩) 0 0) 0 V :=
  ⟨by simpa [valB] using World.ownsRow_lit (base := base) (size := 1) (e := 4) w #[] 0 hb (by simp [maxLen]) (by simp), (Below.refl _ _).alloc hb _⟩
theorem ownB_same {w w' : World} {base : Nat} {e : TypeId} {size : Nat} {v : Value} {n : Nat} {xs : List Value} (h : w.ownsRow base e size v n xs) (hs : Below w.heap.size w w') : w'.ownsRow base e size v n xs := by
  refine ⟨h.1, ?_⟩
  rcases h.2 with q | ⟨g, cap, cur, e1, hb, hg, r⟩
  · exact .inl q
  · exact .inr ⟨g, cap, cur, e1, hb, (hs.block g (Array.getElem?_eq_some_iff.1 hg).1).trans hg, r⟩
theorem MadeB.below {base : Nat} {w wr w' : World} {v : Value} {k : Nat} {V : Nat → Bool} (h : MadeB base w wr v k V) (hb : Below wr.heap.size wr w') (hz : base ≤ wr.heap.size) : MadeB base w w' v k V := ⟨ownB_same h.1 hb, h.2.trans (hb.mono hz)⟩
theorem madeB_on {base : Nat} {w wr w1 w2 : World} {v v' : Value} {k : Nat} {V : Nat → Bool} (h : MadeB base w wr v k V) (hb : Below wr.heap.size wr w1) (hz : base ≤ wr.heap.size) (hown : w2.ownsRow base 4 1 v' (k + 1) (valB V k ++ [.bool (V k)])) (hg : w1.grownBy w2 v.ownBlock) : MadeB base w w2 v' (k + 1) V := by
  obtain ⟨h1, h3⟩ := h
  have z1 := hb.size
  exact ⟨by rw [valB_succ]; exact hown, (h3.trans (hb.mono hz)).trans (grown_below hg (by omega) (own_block h1))⟩
theorem madeB_own {base : Nat} {w wr : World} {v : Value} {k : Nat} {V : Nat → Bool} (h : MadeB base w wr v k V) : ∃ s cap, v = .slice s k cap ∧ OwnB base wr s k V := by
  obtain ⟨h1, _⟩ := h
  rcases h1.2 with ⟨rfl, rfl⟩ | ⟨g, cap, cur, rfl, hb, hg, _, _, _, _⟩
  · exact ⟨none, 0, rfl, fun j hj => by omega⟩
  · refine ⟨some ⟨g, 0, none⟩, cap, rfl, fun j hj => ?_⟩
    exact ⟨g, rfl, hb, (Array.getElem?_eq_some_iff.1 hg).1, by rw [h1.cellAt j (by omega)]; simp [valB, hj], h1.frozenAt j⟩

open Go.ChangeShapes Go.WideShapes Go.ChangeAt Go.RowKit
set_option linter.unusedVariables false
set_option linter.unusedSimpArgs false

theorem or_i64w (f n : Nat) (hf : f < 2 ^ 62) (hn : n < 62) : bits .or .i64 (f : Int) (wrap64 (2 ^ n)) = ((f ||| 2 ^ n : Nat) : Int) := by
  have hp : 2 ^ n < 2 ^ 62 := Nat.pow_lt_pow_right (by decide) hn
  have hq : ((2 ^ n : Nat) : Int) < 4611686018427387904 := by have : ((2 ^ n : Nat) : Int) < ((2 ^ 62 : Nat) : Int) := Int.ofNat_lt.2 hp; simpa using this
  have hz : (0 : Int) ≤ ((2 ^ n : Nat) : Int) := Int.natCast_nonneg _
  rw [pow_cast, IntWalk.wrap64_in _ ⟨by omega, by omega⟩]
  exact (bits_nat .i64 62 (by decide) wraps_i64 f (2 ^ n) hf hp).2
set_option maxRecDepth 20000 in
set_option maxHeartbeats 2000000 in
theorem l23Bits_any (x : Nat) (s : Option Addr) (n c : Nat) (t : Option Addr) (m d : Nat) (U : Nat → Int) (w : World) (hx : (x : Int) ≤ 10) (hm : (m : Int) ≤ 1048576) (HR : Hid (RowI w t m U)) :
    Calls Try.prog 73 #[.agg #[.int .i64 (x : Int), .slice s n c], .slice t m d] w fun e w' => e = .returned (.int .i64 (setN x U m : Int)) ∧ Below w.heap.size w w' := by
  have HP : Hid (2 ^ x ≤ 2 ^ 10) := Nat.pow_le_pow_right (by decide) (by omega)
  go_enter Try.func73, Try.ntmps73
  go_wp2_with fail
  go_loopw [5, 6] (fun q i wr => ∃ j : Nat, j ≤ m ∧ i = .int .i64 j ∧ q = .int .i64 (setN x U j : Int) ∧ wr.cell? ⟨w.heap.size, 0, none⟩ = some (.int .i64 (x : Int)) ∧ w.heap.size < wr.heap.size ∧ Below w.heap.size w wr) (fun _ i _ => m - (intOf i).toNat)
  case atStart => exact ⟨0, Nat.zero_le _, rfl, rfl, by simp [go_sem], by simp, (by repeat (first | with_reducible exact Below.refl _ _ | with_reducible refine Below.setCell ?_ (by first | omega | (simp; done) | (simp; omega)) _ | with_reducible refine bDrewN ?_ _ | with_reducible refine Below.drew ?_ | with_reducible refine Below.alloc ?_ (by first | omega | (simp; done) | (simp; omega)) _))⟩
  case round =>
    obtain ⟨j, hj, rfl, rfl, q0, zp, hB⟩ := hrel
    by_cases h1 : j < m
    · obtain ⟨g, o, rfl, hg, c0⟩ := HR.out j h1
      have d0 := (hB.cell (p := ⟨g, o + j, none⟩) hg).trans c0
      have hz : g < wr.heap.size := Nat.lt_of_lt_of_le hg hB.size
      have j1 : (j : Int) < (m : Int) := by omega
      have HL : Hid (setN x U j < 2 ^ 62) := by show _ < _; have := set_lt x U j; have := HP.out; omega
      have HS : Hid (setN x U (j + 1) = if inB 0 ((x : Int) - 1) (U j) = true then setN x U j ||| 2 ^ (U j).toNat else setN x U j) := rfl
      obtain ⟨y, hy⟩ : ∃ y, U j = y := ⟨_, rfl⟩
      obtain ⟨f, hf⟩ : ∃ f, setN x U j = f := ⟨_, rfl⟩
      rw [hy] at d0 HS
      rw [hf] at HL HS ⊢
      clear c0 hy hf
      have HW : ∀ w, Calls Try.prog 70 #[.int .i64 y, .int .i64 0, .int .i64 ((x : Int) - 1)] w fun e w' => e = .returned (.bool (inB 0 ((x : Int) - 1) y)) ∧ w' = w := fun w => l1In_is _ _ _ w
      cases q : inB 0 ((x : Int) - 1) y
      · have HN : Hid (f = setN x U (j + 1)) := by show _ = _; rw [HS.out, q]; rfl
        rw [q] at HW
        go_wp2_with fail
        go_quiet (first | (go_at_call 70; refine Calls.quiet_of_same (HW _)))
        go_wp2
        go_roundw
        case rel => exact ⟨j + 1, by omega, by go_num, by rw [HN.out], by simpa using q0, by simpa using zp, (by repeat (first | with_reducible exact Below.refl _ _ | with_reducible exact hB | with_reducible refine Below.setCell ?_ (by first | omega | (simp; done) | (simp; omega)) _ | with_reducible refine bDrewN ?_ _ | with_reducible refine Below.drew ?_ | with_reducible refine Below.alloc ?_ (by first | omega | (simp; done) | (simp; omega)) _))⟩
        case measure => first | (simp [intOf]; done) | (simp [intOf]; omega)
      · obtain ⟨y0, y1⟩ := inB_yes q
        obtain ⟨z, rfl⟩ : ∃ z : Nat, y = (z : Int) := ⟨y.toNat, by omega⟩
        have HN : Hid ((f ||| 2 ^ z : Nat) = setN x U (j + 1)) := by show _ = _; rw [HS.out, q]; simp
        rw [q] at HW
        have ho : bits .or .i64 (f : Int) (wrap64 (2 ^ z)) = ((f ||| 2 ^ z : Nat) : Int) := or_i64w f z HL.out (by omega)
        have z1 : (z : Int) < 62 := by omega
        go_wp2_with fail
        go_quiet (first | (go_at_call 70; refine Calls.quiet_of_same (HW _)))
        go_wp2
        go_roundw
        case rel => exact ⟨j + 1, by omega, by go_num, by rw [← HN.out], by simpa using q0, by simpa using zp, (by repeat (first | with_reducible exact Below.refl _ _ | with_reducible exact hB | with_reducible refine Below.setCell ?_ (by first | omega | (simp; done) | (simp; omega)) _ | with_reducible refine bDrewN ?_ _ | with_reducible refine Below.drew ?_ | with_reducible refine Below.alloc ?_ (by first | omega | (simp; done) | (simp; omega)) _))⟩
        case measure => first | (simp [intOf]; done) | (simp [intOf]; omega)
    · obtain rfl : j = m := by omega
      go_wp2
      go_ret
      exact ⟨rfl, (by repeat (first | with_reducible exact Below.refl _ _ | with_reducible exact hB | with_reducible refine Below.setCell ?_ (by first | omega | (simp; done) | (simp; omega)) _ | with_reducible refine bDrewN ?_ _ | with_reducible refine Below.drew ?_ | with_reducible refine Below.alloc ?_ (by first | omega | (simp; done) | (simp; omega)) _))⟩
theorem gone_at {base k b x n : Nat} {X : Nat → Int} {K : Nat → Nat} {V : Nat → Nat → Int} {w wr : World} {v : Value} (h : MadeB base w wr v k (fun i => (fl b x X K V n).testBit i)) (hk : 0 < k) : ∃ g cap, v = .slice (some ⟨g, 0, none⟩) k cap ∧ g < wr.heap.size ∧ base ≤ g ∧ ∀ i, i < k → wr.cell? ⟨g, i, none⟩ = some (.bool ((fl b x X K V n).testBit i)) := by
  obtain ⟨s, cap, e, ho⟩ := madeB_own h
  obtain ⟨g, e1, hb, hl, -, -⟩ := ho 0 hk
  refine ⟨g, cap, by rw [e, e1], hl, hb, fun i hi => ?_⟩
  obtain ⟨g', e2, _, _, hc, _⟩ := ho i hi
  rw [e1] at e2
  cases e2
  exact hc
set_option maxRecDepth 20000 in
set_option maxHeartbeats 8000000 in
theorem l23Fails_any (b x : Nat) (s : Option Addr) (n c : Nat) (X : Nat → Int) (K : Nat → Nat) (V : Nat → Nat → Int) (w : World) (ht : Hid (treeB (x : Int) n X K V = true)) (hb : Hid (b < 2 ^ x)) (HR : Hid (RowGat w s n X K V)) :
    Calls Try.prog 60 #[.agg #[.int .i64 (x : Int), .slice s n c], .int .i64 (b : Int)] w fun e w' => e = .returned (.bool (faB b x n X K V)) ∧ Below w.heap.size w w' := by
  obtain ⟨⟨x0, x1⟩, ⟨n0, n1⟩, HG0⟩ := tree_yes ht.out
  have HG : Hid (∀ j, j < n → gatB (x + j - 1) (X j) (K j) (V j) = true) := HG0
  have HB0 : Hid (b < 2 ^ 62) := by
    have h1 := hb.out
    have h2 : 2 ^ x ≤ 2 ^ 62 := Nat.pow_le_pow_right (by decide) (by omega)
    show b < 2 ^ 62
    omega
  clear HG0
  go_enter Try.func60, Try.ntmps60
  go_upto_region 2 with fail
  obtain ⟨wd, hwd⟩ : ∃ wd, wd = w.alloc (.cells #[.int .i64 (x : Int), .slice s n c] 26) := ⟨_, rfl⟩
  rw [← hwd]
  have B0 : Below w.heap.size w wd := by rw [hwd]; exact (by repeat (first | with_reducible exact Below.refl _ _ | with_reducible refine Below.setCell ?_ (by first | omega | (simp; done) | (simp; omega)) _ | with_reducible refine bDrewN ?_ _ | with_reducible refine Below.drew ?_ | with_reducible refine Below.alloc ?_ (by first | omega | (simp; done) | (simp; omega)) _))
  have p0 : wd.cell? ⟨w.heap.size, 0, none⟩ = some (.int .i64 (x : Int)) := by rw [hwd]; simp [go_sem]
  have p1 : wd.cell? ⟨w.heap.size, 1, none⟩ = some (.slice s n c) := by rw [hwd]; simp [go_sem]
  have HZD : Hid (wd.heap.size = w.heap.size + 1) := by show wd.heap.size = _; rw [hwd]; simp
  have zd : w.heap.size < wd.heap.size := by have := HZD.out; omega
  clear hwd
  have HD : Hid (Below w.heap.size w wd) := B0
  have HM0 : Hid (MadeB wd.heap.size wd (wd.alloc (.cells #[] 4)) (.slice (some ⟨w.heap.size + 1, 0, none⟩) 0 0) 0 (fun i => (fl b x X K V n).testBit i)) := by
    rw [← HZD.out]
    exact madeB_lit wd _ (Nat.le_refl _)
  have HP : Hid (wd.cell? ⟨w.heap.size, 0, none⟩ = some (.int .i64 (x : Int)) ∧ wd.cell? ⟨w.heap.size, 1, none⟩ = some (.slice s n c)) := ⟨p0, p1⟩
  clear p0 p1 B0
  go_wp2_with fail
  go_loopw [5, 6] (fun v i wr => ∃ k : Nat, k ≤ x ∧ i = .int .i64 k ∧ Hid (MadeB wd.heap.size wd wr v k (fun i => (fl b x X K V n).testBit i))) (fun _ i _ => x - (intOf i).toNat)
  case atStart => exact ⟨0, Nat.zero_le _, rfl, HM0.out⟩
  case round =>
    obtain ⟨k, hk, rfl, HM⟩ := hrel
    have hB : Below wd.heap.size wd wr := HM.out.2
    have zB := hB.size
    have q0 := (hB.cell (p := ⟨w.heap.size, 0, none⟩) (show w.heap.size < wd.heap.size by omega)).trans HP.out.1
    have q1 := (hB.cell (p := ⟨w.heap.size, 1, none⟩) (show w.heap.size < wd.heap.size by omega)).trans HP.out.2
    have zp : w.heap.size < wr.heap.size := by omega
    by_cases h1 : k < x
    · have k1 : (k : Int) < (x : Int) := by omega
      have hbit := bit_i64 b k HB0.out
      have HE : Hid (b.testBit k = (fl b x X K V n).testBit k) := (fl_bit (k := 0) (m := n) (by omega) (Nat.zero_le _)).symm
      have HO : Hid (wr.ownsRow wd.heap.size 4 1 u5 k (valB (fun i => (fl b x X K V n).testBit i) k)) := HM.out.1
      go_wp2_with (at_builtin; refine list_bool wd.heap.size u5 k (valB (fun i => (fl b x X K V n).testBit i) k) (.tmp 17) (.tmp 24) (by rfl) (by rfl) (by rfl) (by rfl) HO.out (by omega) zB ?_; intro g' cap' w7 hown7 hgrow7 hlt7)
      go_roundw
      case rel => exact ⟨k + 1, by omega, by go_num, madeB_on HM.out (Below.refl _ _) zB (by rw [← HE.out]; exact hown7) hgrow7⟩
      case measure => first | (simp [intOf]; done) | (simp [intOf]; omega)
    · obtain rfl : k = x := by omega
      have HMK : Hid (MadeB wd.heap.size wd wr u5 (k + 0) (fun i => (fl b k X K V n).testBit i)) := HM.out
      clear HM HM0
      go_wp2_with fail
      clear q0 q1 hB zB zp
      go_loopw [5, 7] (fun v i wr => ∃ j : Nat, j ≤ n ∧ i = .int .i64 j ∧ Hid (MadeB wd.heap.size wd wr v (k + j) (fun i => (fl b k X K V n).testBit i))) (fun _ i _ => n - (intOf i).toNat)
      case atStart => exact ⟨0, Nat.zero_le _, rfl, HMK.out⟩
      case round =>
        clear HMK
        obtain ⟨j, hj, rfl, HM⟩ := hrel
        rename_i wr
        have hB : Below wd.heap.size wd wr := HM.out.2
        have zB := hB.size
        have q0 := (hB.cell (p := ⟨w.heap.size, 0, none⟩) (show w.heap.size < wd.heap.size by omega)).trans HP.out.1
        have q1 := (hB.cell (p := ⟨w.heap.size, 1, none⟩) (show w.heap.size < wd.heap.size by omega)).trans HP.out.2
        have zp : w.heap.size < wr.heap.size := by omega
        obtain ⟨gg, gc, rfl, zgg, lgg, hgone⟩ := gone_at HM.out (by omega)
        have HGO : Hid (∀ i, i < k + j → wr.cell? ⟨gg, i, none⟩ = some (.bool ((fl b k X K V n).testBit i))) := hgone
        clear hgone
        have HBW : Hid (Below w.heap.size w wr) := HD.out.trans (hB.mono (by omega))
        by_cases h2 : j < n
        · obtain ⟨g, o, a, d, rfl, hg, c0, c1, hr⟩ := HR.out j h2
          replace c0 := (HBW.out.cell (p := ⟨g, o + j * 2, none⟩) hg).trans c0
          replace c1 := (HBW.out.cell (p := ⟨g, o + j * 2 + 1, none⟩) hg).trans c1
          have HI : Hid (RowI wr a (K j) (V j)) := hr.below HBW.out
          have zg : g < wr.heap.size := Nat.lt_of_lt_of_le hg HBW.out.size
          obtain ⟨⟨k0, k12⟩, -, -, hv⟩ := gat_yes (HG.out j h2)
          have HV : Hid (∀ i, i < K j → 0 ≤ V j i ∧ V j i < (k : Int) + j) := fun i hi => by have := hv i hi; omega
          have HCS : Hid (cntB (fl b k X K V n) (V j) (K j) = cntB (fl b k X K V j) (V j) (K j)) := cnt_same fun i hi => by have := hv i hi; exact fl_bit (by omega) (by omega)
          have HW : Hid ((fl b k X K V n).testBit (k + j) = decide (X j ≤ cntB (fl b k X K V j) (V j) (K j))) := fl_new hb.out h2
          obtain ⟨y, hy⟩ : ∃ y, X j = y := ⟨_, rfl⟩
          obtain ⟨m, hm⟩ : ∃ m, K j = m := ⟨_, rfl⟩
          rw [hy] at c0 HW
          rw [hm] at c1 HI HV HCS HW k12
          have j1 : (j : Int) < (n : Int) := by omega
          clear hr hv hg hy hm k0
          go_wp2_with fail
          go_loopw [8, 9] (fun v i ws => ∃ l : Nat, l ≤ m ∧ i = .int .i64 l ∧ v = .int .i64 (cntB (fl b k X K V n) (V j) l) ∧ ws = wr) (fun _ i _ => m - (intOf i).toNat)
          case atStart => exact ⟨0, Nat.zero_le _, rfl, rfl, rfl⟩
          case round =>
            obtain ⟨l, hl, rfl, rfl, rfl⟩ := hrel
            have cb := cnt_bound (fl b k X K V n) (V j) l
            by_cases h3 : l < m
            · obtain ⟨ga, oa, rfl, hga, d0⟩ := HI.out l h3
              obtain ⟨y0, y1⟩ := HV.out l h3
              obtain ⟨z, hz⟩ : ∃ z : Nat, V j l = (z : Int) := ⟨(V j l).toNat, by omega⟩
              have e0 := HGO.out z (by omega)
              have HS : Hid (cntB (fl b k X K V n) (V j) (l + 1) = cntB (fl b k X K V n) (V j) l + (if (fl b k X K V n).testBit z = true then 1 else 0)) := by
                show cntB (fl b k X K V n) (V j) l + (if (fl b k X K V n).testBit (V j l).toNat = true then 1 else 0) = _
                rw [hz, Int.toNat_natCast]
              rw [hz] at d0
              have z1 : (z : Int) < (k : Int) + (j : Int) := by omega
              have z2 : (z : Int) < ((k + j : Nat) : Int) := by omega
              have l1 : (l : Int) < (m : Int) := by omega
              obtain ⟨r, hr⟩ : ∃ r, cntB (fl b k X K V n) (V j) l = r := ⟨_, rfl⟩
              rw [hr] at HS cb ⊢
              clear hr hz y0 y1
              cases q : (fl b k X K V n).testBit z
              · have HN : Hid (r = cntB (fl b k X K V n) (V j) (l + 1)) := by show _ = _; rw [HS.out, q]; simp
                rw [q] at e0
                go_wp2
                go_roundw
                case rel => exact ⟨l + 1, by omega, by go_num, by rw [HN.out], by first | rfl | trivial⟩
                case measure => first | (simp [intOf]; done) | (simp [intOf]; omega)
              · have HN : Hid (r + 1 = cntB (fl b k X K V n) (V j) (l + 1)) := by show _ = _; rw [HS.out, q]; simp
                rw [q] at e0
                go_wp2
                go_roundw
                case rel => exact ⟨l + 1, by omega, by go_num, by rw [← HN.out], by first | rfl | trivial⟩
                case measure => first | (simp [intOf]; done) | (simp [intOf]; omega)
            · obtain rfl : l = m := by omega
              have HX : Hid (decide (y ≤ cntB (fl b k X K V n) (V j) l) = (fl b k X K V n).testBit (k + j)) := by show _ = _; rw [HW.out, HCS.out]
              have HO : Hid (World.ownsRow _ wd.heap.size 4 1 (.slice (some ⟨gg, 0, none⟩) (k + j) gc) (k + j) (valB (fun i => (fl b k X K V n).testBit i) (k + j))) := HM.out.1
              go_wp2_with (at_builtin; refine list_bool wd.heap.size _ (k + j) (valB (fun i => (fl b k X K V n).testBit i) (k + j)) (.tmp 58) (.tmp 67) (by rfl) (by rfl) (by rfl) (by rfl) HO.out (by omega) zB ?_; intro g' cap' w7 hown7 hgrow7 hlt7)
              go_roundw
              case rel => exact ⟨j + 1, by omega, by go_num, (show MadeB _ _ _ _ (k + j + 1) _ from madeB_on (k := k + j) HM.out (Below.refl _ _) zB (by rw [← HX.out]; exact hown7) hgrow7)⟩
              case measure => first | (simp [intOf]; done) | (simp [intOf]; omega)
        · obtain rfl : j = n := by omega
          have e0 := HGO.out (k + j - 1) (by omega)
          have ee : ((k + j : Nat) : Int) - 1 = ((k + j - 1 : Nat) : Int) := by omega
          obtain ⟨r, hr⟩ : ∃ r, k + j - 1 = r := ⟨_, rfl⟩
          have e1 : ((k + j : Nat) : Int) - 1 = (r : Int) := by omega
          have e2 : (k : Int) + (j : Int) - 1 = (r : Int) := by omega
          have r1 : (r : Int) < ((k + j : Nat) : Int) := by omega
          have r2 : (r : Int) < (k : Int) + (j : Int) := by omega
          have HO : Hid ((fl b k X K V j).testBit r = faB b k j X K V) := by show _ = _; unfold faB; rw [hr]
          rw [hr] at e0
          clear hr ee
          go_wp2
          go_ret
          exact ⟨ret_bool HO.out, HBW.out⟩

open Go.ChangeShapes Go.WideShapes Go.ChangeAt Go.RowKit
set_option linter.unusedVariables false
set_option linter.unusedSimpArgs false

def fyB (x : Int) (n : Nat) (X : Nat → Int) (K : Nat → Nat) (V : Nat → Nat → Int) (m : Nat) (U : Nat → Int) : Bool := treeB x n X K V && faB (setN x.toNat U m) x.toNat n X K V
set_option maxRecDepth 20000 in
set_option maxHeartbeats 4000000 in
theorem specFailsBy_any (x : Int) (s : Option Addr) (n c : Nat) (X : Nat → Int) (K : Nat → Nat) (V : Nat → Nat → Int) (t : Option Addr) (m d : Nat) (U : Nat → Int) (w : World) (hm : (m : Int) ≤ 1048576) (HR : Hid (RowGat w s n X K V)) (HU : Hid (RowI w t m U)) :
    Calls Try.prog 45 #[.agg #[.int .i64 x, .slice s n c], .slice t m d] w fun e w' => e = .returned (.bool (fyB x n X K V m U)) ∧ Below w.heap.size w w' := by
  have HT : Hid (∀ w', Below w.heap.size w w' → Calls Try.prog 49 #[.agg #[.int .i64 x, .slice s n c]] w' fun e w'' => e = .returned (.bool (treeB x n X K V)) ∧ Below w'.heap.size w' w'') := fun w' hb => specTreeOk_any x s n c X K V w' (HR.out.below hb)
  cases q : treeB x n X K V
  · have HO : Hid (fyB x n X K V m U = false) := by show _ = _; unfold fyB; rw [q]; rfl
    rw [q] at HT
    clear q
    go_enter Try.func45, Try.ntmps45
    go_upto_region 1 with fail
    obtain ⟨wd, hwd⟩ : ∃ wd, wd = w.alloc (.cells #[.int .i64 x, .slice s n c] 26) := ⟨_, rfl⟩
    rw [← hwd]
    have B0 : Below w.heap.size w wd := by rw [hwd]; exact (by repeat (first | with_reducible exact Below.refl _ _ | with_reducible refine Below.setCell ?_ (by first | omega | (simp; done) | (simp; omega)) _ | with_reducible refine bDrewN ?_ _ | with_reducible refine Below.drew ?_ | with_reducible refine Below.alloc ?_ (by first | omega | (simp; done) | (simp; omega)) _))
    have p0 : wd.cell? ⟨w.heap.size, 0, none⟩ = some (.int .i64 x) := by rw [hwd]; simp [go_sem]
    have p1 : wd.cell? ⟨w.heap.size, 1, none⟩ = some (.slice s n c) := by rw [hwd]; simp [go_sem]
    have zd : w.heap.size < wd.heap.size := by rw [hwd]; simp
    have HB : Hid (Below w.heap.size w wd) := B0
    clear hwd B0
    refine wp_region_held_drew (S := fun w' => w'.cell? ⟨w.heap.size, 0, none⟩ = some (.int .i64 x) ∧ w'.cell? ⟨w.heap.size, 1, none⟩ = some (.slice s n c)) (by kernel_rfl) ?_ (fun hHeld => ?_)
    · exact keepT p0 p1 zd (by repeat (first | with_reducible exact Below.refl _ _ | with_reducible refine Below.setCell ?_ (by first | omega | (simp; done) | (simp; omega)) _ | with_reducible refine bDrewN ?_ _ | with_reducible refine Below.drew ?_ | with_reducible refine Below.alloc ?_ (by first | omega | (simp; done) | (simp; omega)) _))
    refine wpAnyH_take (i := 0) (v := .agg #[.int .i64 x, .slice s n c]) rfl (by kernel_rfl) (by kernel_rfl) (by kernel_rfl) (fun _ _ _ h => h) (Or.inl ⟨by kernel_rfl, ?_⟩) hHeld ?_
    · intro w' hSw
      obtain ⟨s0, s1⟩ := hSw
      first | (go_simp; done) | (go_simp; with_reducible rfl)
    simp only [Act.put, List.setIfInBounds_toArray, List.set_cons_zero, List.set_cons_succ]
    refine wpAnyH_ready (rs := [1]) (by kernel_rfl) (by simp) ?_
    refine AllReadyH.cons rfl (fun KK hK => ?_) AllReadyH.nil
    go_simp
    go_wp2_with (first | (go_at_call 49; refine (HT.out _ (HB.out.trans (Below.mono (by repeat (first | with_reducible exact Below.refl _ _ | with_reducible refine Below.setCell ?_ (by first | omega | (simp; done) | (simp; omega)) _ | with_reducible refine bDrewN ?_ _ | with_reducible refine Below.drew ?_ | with_reducible refine Below.alloc ?_ (by first | omega | (simp; done) | (simp; omega)) _)) HB.out.size))).mono ?_; rintro e w7 ⟨rfl, h7⟩; have B7 : Below wd.heap.size wd w7 := Below.trans (by repeat (first | with_reducible exact Below.refl _ _ | with_reducible refine Below.setCell ?_ (by first | omega | (simp; done) | (simp; omega)) _ | with_reducible refine bDrewN ?_ _ | with_reducible refine Below.drew ?_ | with_reducible refine Below.alloc ?_ (by first | omega | (simp; done) | (simp; omega)) _)) (h7.mono (by first | omega | (simp; done) | (simp; omega))); have s7 := B7.size; clear h7))
    refine hK.out _ _ (keepT p0 p1 zd B7) (fun hHeld => ?_)
    clear hK KK
    refine wpAnyH_take (i := 2) (v := .bool false) rfl (by kernel_rfl) (by kernel_rfl) (by kernel_rfl) (fun _ _ _ h => h) (Or.inl ⟨by kernel_rfl, ?_⟩) hHeld ?_
    · intro w' hSw
      obtain ⟨s0, s1⟩ := hSw
      first | (go_simp; done) | (go_simp; with_reducible rfl)
    simp only [Act.put, List.setIfInBounds_toArray, List.set_cons_zero, List.set_cons_succ]
    refine wpAnyH_take (i := 3) (v := undef) rfl (by kernel_rfl) (by kernel_rfl) (by kernel_rfl) (fun _ _ _ h => h) (Or.inr ⟨by kernel_rfl, rfl⟩) hHeld ?_
    simp only [Act.put, List.setIfInBounds_toArray, List.set_cons_zero, List.set_cons_succ]
    refine wpAnyH_take (i := 4) (v := undef) rfl (by kernel_rfl) (by kernel_rfl) (by kernel_rfl) (fun _ _ _ h => h) (Or.inr ⟨by kernel_rfl, rfl⟩) hHeld ?_
    simp only [Act.put, List.setIfInBounds_toArray, List.set_cons_zero, List.set_cons_succ]
    refine wpAnyH_take (i := 5) (v := undef) rfl (by kernel_rfl) (by kernel_rfl) (by kernel_rfl) (fun _ _ _ h => h) (Or.inr ⟨by kernel_rfl, rfl⟩) hHeld ?_
    simp only [Act.put, List.setIfInBounds_toArray, List.set_cons_zero, List.set_cons_succ]
    refine wpAnyH_take (i := 6) (v := undef) rfl (by kernel_rfl) (by kernel_rfl) (by kernel_rfl) (fun _ _ _ h => h) (Or.inr ⟨by kernel_rfl, rfl⟩) hHeld ?_
    simp only [Act.put, List.setIfInBounds_toArray, List.set_cons_zero, List.set_cons_succ]
    refine wpAnyH_take (i := 7) (v := undef) rfl (by kernel_rfl) (by kernel_rfl) (by kernel_rfl) (fun _ _ _ h => h) (Or.inr ⟨by kernel_rfl, rfl⟩) hHeld ?_
    simp only [Act.put, List.setIfInBounds_toArray, List.set_cons_zero, List.set_cons_succ]
    refine wpAnyH_take (i := 8) (v := .bool false) rfl (by kernel_rfl) (by kernel_rfl) (by kernel_rfl) (fun _ _ _ h => h) (Or.inl ⟨by kernel_rfl, ?_⟩) hHeld ?_
    · intro w' hSw
      obtain ⟨s0, s1⟩ := hSw
      first | (go_simp; done) | (go_simp; with_reducible rfl)
    simp only [Act.put, List.setIfInBounds_toArray, List.set_cons_zero, List.set_cons_succ]
    refine wpAnyH_ready (rs := [9]) (by kernel_rfl) (by simp) ?_
    refine AllReadyH.cons rfl (fun KK hK => ?_) AllReadyH.nil
    go_simp
    refine hK.out _ _ hHeld (fun hHeld => ?_)
    clear hK KK
    refine wpAnyH_done (by kernel_rfl) ?_ _
    have B9 : Below w.heap.size w w7 := HB.out.trans (B7.mono HB.out.size)
    go_wp2
    go_ret
    exact ⟨ret_bool HO.out.symm, (by repeat (first | with_reducible exact Below.refl _ _ | with_reducible exact B9 | with_reducible refine Below.setCell ?_ (by first | omega | (simp; done) | (simp; omega)) _ | with_reducible refine bDrewN ?_ _ | with_reducible refine Below.drew ?_ | with_reducible refine Below.alloc ?_ (by first | omega | (simp; done) | (simp; omega)) _))⟩
  · obtain ⟨⟨x0, x1⟩, -, -⟩ := tree_yes q
    obtain ⟨x, rfl⟩ : ∃ y : Nat, x = (y : Int) := ⟨x.toNat, by omega⟩
    have HO : Hid (fyB (x : Int) n X K V m U = faB (setN x U m) x n X K V) := by show _ = _; unfold fyB; rw [q, Int.toNat_natCast]; rfl
    have HQ : Hid (treeB (x : Int) n X K V = true) := q
    rw [q] at HT
    clear q
    go_enter Try.func45, Try.ntmps45
    go_upto_region 1 with fail
    obtain ⟨wd, hwd⟩ : ∃ wd, wd = w.alloc (.cells #[.int .i64 (x : Int), .slice s n c] 26) := ⟨_, rfl⟩
    rw [← hwd]
    have B0 : Below w.heap.size w wd := by rw [hwd]; exact (by repeat (first | with_reducible exact Below.refl _ _ | with_reducible refine Below.setCell ?_ (by first | omega | (simp; done) | (simp; omega)) _ | with_reducible refine bDrewN ?_ _ | with_reducible refine Below.drew ?_ | with_reducible refine Below.alloc ?_ (by first | omega | (simp; done) | (simp; omega)) _))
    have p0 : wd.cell? ⟨w.heap.size, 0, none⟩ = some (.int .i64 (x : Int)) := by rw [hwd]; simp [go_sem]
    have p1 : wd.cell? ⟨w.heap.size, 1, none⟩ = some (.slice s n c) := by rw [hwd]; simp [go_sem]
    have zd : w.heap.size < wd.heap.size := by rw [hwd]; simp
    have HB : Hid (Below w.heap.size w wd) := B0
    clear hwd B0
    refine wp_region_held_drew (S := fun w' => w'.cell? ⟨w.heap.size, 0, none⟩ = some (.int .i64 (x : Int)) ∧ w'.cell? ⟨w.heap.size, 1, none⟩ = some (.slice s n c)) (by kernel_rfl) ?_ (fun hHeld => ?_)
    · exact keepT p0 p1 zd (by repeat (first | with_reducible exact Below.refl _ _ | with_reducible refine Below.setCell ?_ (by first | omega | (simp; done) | (simp; omega)) _ | with_reducible refine bDrewN ?_ _ | with_reducible refine Below.drew ?_ | with_reducible refine Below.alloc ?_ (by first | omega | (simp; done) | (simp; omega)) _))
    refine wpAnyH_take (i := 0) (v := .agg #[.int .i64 (x : Int), .slice s n c]) rfl (by kernel_rfl) (by kernel_rfl) (by kernel_rfl) (fun _ _ _ h => h) (Or.inl ⟨by kernel_rfl, ?_⟩) hHeld ?_
    · intro w' hSw
      obtain ⟨s0, s1⟩ := hSw
      first | (go_simp; done) | (go_simp; with_reducible rfl)
    simp only [Act.put, List.setIfInBounds_toArray, List.set_cons_zero, List.set_cons_succ]
    refine wpAnyH_ready (rs := [1]) (by kernel_rfl) (by simp) ?_
    refine AllReadyH.cons rfl (fun KK hK => ?_) AllReadyH.nil
    go_simp
    go_wp2_with (first | (go_at_call 49; refine (HT.out _ (HB.out.trans (Below.mono (by repeat (first | with_reducible exact Below.refl _ _ | with_reducible refine Below.setCell ?_ (by first | omega | (simp; done) | (simp; omega)) _ | with_reducible refine bDrewN ?_ _ | with_reducible refine Below.drew ?_ | with_reducible refine Below.alloc ?_ (by first | omega | (simp; done) | (simp; omega)) _)) HB.out.size))).mono ?_; rintro e w7 ⟨rfl, h7⟩; have B7 : Below wd.heap.size wd w7 := Below.trans (by repeat (first | with_reducible exact Below.refl _ _ | with_reducible refine Below.setCell ?_ (by first | omega | (simp; done) | (simp; omega)) _ | with_reducible refine bDrewN ?_ _ | with_reducible refine Below.drew ?_ | with_reducible refine Below.alloc ?_ (by first | omega | (simp; done) | (simp; omega)) _)) (h7.mono (by first | omega | (simp; done) | (simp; omega))); have s7 := B7.size; clear h7))
    refine hK.out _ _ (keepT p0 p1 zd B7) (fun hHeld => ?_)
    clear hK KK
    refine wpAnyH_take (i := 2) (v := .bool true) rfl (by kernel_rfl) (by kernel_rfl) (by kernel_rfl) (fun _ _ _ h => h) (Or.inl ⟨by kernel_rfl, ?_⟩) hHeld ?_
    · intro w' hSw
      obtain ⟨s0, s1⟩ := hSw
      first | (go_simp; done) | (go_simp; with_reducible rfl)
    simp only [Act.put, List.setIfInBounds_toArray, List.set_cons_zero, List.set_cons_succ]
    refine wpAnyH_take (i := 3) (v := .agg #[.int .i64 (x : Int), .slice s n c]) rfl (by kernel_rfl) (by kernel_rfl) (by kernel_rfl) (fun _ _ _ h => h) (Or.inl ⟨by kernel_rfl, ?_⟩) hHeld ?_
    · intro w' hSw
      obtain ⟨s0, s1⟩ := hSw
      first | (go_simp; done) | (go_simp; with_reducible rfl)
    simp only [Act.put, List.setIfInBounds_toArray, List.set_cons_zero, List.set_cons_succ]
    refine wpAnyH_take (i := 4) (v := .agg #[.int .i64 (x : Int), .slice s n c]) rfl (by kernel_rfl) (by kernel_rfl) (by kernel_rfl) (fun _ _ _ h => h) (Or.inl ⟨by kernel_rfl, ?_⟩) hHeld ?_
    · intro w' hSw
      obtain ⟨s0, s1⟩ := hSw
      first | (go_simp; done) | (go_simp; with_reducible rfl)
    simp only [Act.put, List.setIfInBounds_toArray, List.set_cons_zero, List.set_cons_succ]
    refine wpAnyH_take (i := 5) (v := .slice t m d) rfl (by kernel_rfl) (by kernel_rfl) (by kernel_rfl) (fun _ _ _ h => h) (Or.inl ⟨by kernel_rfl, ?_⟩) hHeld ?_
    · intro w' hSw
      obtain ⟨s0, s1⟩ := hSw
      first | (go_simp; done) | (go_simp; with_reducible rfl)
    simp only [Act.put, List.setIfInBounds_toArray, List.set_cons_zero, List.set_cons_succ]
    refine wpAnyH_ready (rs := [6]) (by kernel_rfl) (by simp) ?_
    refine AllReadyH.cons rfl (fun KK hK => ?_) AllReadyH.nil
    go_simp
    go_wp2_with (first | (go_at_call 73; refine (l23Bits_any x s n c t m d U _ x1 hm (HU.out.below (HB.out.trans (Below.mono B7 HB.out.size)))).mono ?_; rintro e w8 ⟨rfl, h8⟩; have B8 : Below wd.heap.size wd w8 := B7.trans (h8.mono s7); have s8 := B8.size; clear h8))
    refine hK.out _ _ (keepT p0 p1 zd B8) (fun hHeld => ?_)
    clear hK KK
    refine wpAnyH_ready (rs := [7]) (by kernel_rfl) (by simp) ?_
    refine AllReadyH.cons rfl (fun KK hK => ?_) AllReadyH.nil
    go_simp
    go_wp2_with (first | (go_at_call 60; refine (l23Fails_any (setN x U m) x s n c X K V _ HQ (set_lt x U m) (HR.out.below (HB.out.trans (Below.mono B8 HB.out.size)))).mono ?_; rintro e w9 ⟨rfl, h9⟩; have B9 : Below wd.heap.size wd w9 := B8.trans (h9.mono s8); clear h9))
    refine hK.out _ _ (keepT p0 p1 zd B9) (fun hHeld => ?_)
    clear hK KK
    refine wpAnyH_take (i := 8) (v := .bool (faB (setN x U m) x n X K V)) rfl (by kernel_rfl) (by kernel_rfl) (by kernel_rfl) (fun _ _ _ h => h) (Or.inl ⟨by kernel_rfl, ?_⟩) hHeld ?_
    · intro w' hSw
      obtain ⟨s0, s1⟩ := hSw
      first | (go_simp; done) | (go_simp; with_reducible rfl)
    simp only [Act.put, List.setIfInBounds_toArray, List.set_cons_zero, List.set_cons_succ]
    refine wpAnyH_ready (rs := [9]) (by kernel_rfl) (by simp) ?_
    refine AllReadyH.cons rfl (fun KK hK => ?_) AllReadyH.nil
    go_simp
    refine hK.out _ _ hHeld (fun hHeld => ?_)
    clear hK KK
    refine wpAnyH_done (by kernel_rfl) ?_ _
    have B10 : Below w.heap.size w w9 := HB.out.trans (B9.mono HB.out.size)
    go_wp2
    go_ret
    exact ⟨ret_bool HO.out.symm, (by repeat (first | with_reducible exact Below.refl _ _ | with_reducible exact B10 | with_reducible refine Below.setCell ?_ (by first | omega | (simp; done) | (simp; omega)) _ | with_reducible refine bDrewN ?_ _ | with_reducible refine Below.drew ?_ | with_reducible refine Below.alloc ?_ (by first | omega | (simp; done) | (simp; omega)) _))⟩
set_option maxRecDepth 20000 in
set_option maxHeartbeats 4000000 in
theorem implFailsBy_any (x : Int) (s : Option Addr) (n c : Nat) (X : Nat → Int) (K : Nat → Nat) (V : Nat → Nat → Int) (t : Option Addr) (m d : Nat) (U : Nat → Int) (w : World) (hm : (m : Int) ≤ 1048576) (HR : Hid (RowGat w s n X K V)) (HU : Hid (RowI w t m U)) :
    Calls Try.prog 15 #[.agg #[.int .i64 x, .slice s n c], .slice t m d] w fun e w' => e = .returned (.bool (fyB x n X K V m U)) ∧ Below w.heap.size w w' := by
  have HT : Hid (∀ w', Below w.heap.size w w' → Calls Try.prog 46 #[.agg #[.int .i64 x, .slice s n c]] w' fun e w'' => e = .returned (.bool (treeB x n X K V)) ∧ Below w'.heap.size w' w'') := fun w' hb => implTreeOk_any x s n c X K V w' (HR.out.below hb)
  cases q : treeB x n X K V
  · have HO : Hid (fyB x n X K V m U = false) := by show _ = _; unfold fyB; rw [q]; rfl
    rw [q] at HT
    clear q
    go_enter Try.func15, Try.ntmps15
    go_upto_region 1 with fail
    obtain ⟨wd, hwd⟩ : ∃ wd, wd = w.alloc (.cells #[.int .i64 x, .slice s n c] 26) := ⟨_, rfl⟩
    rw [← hwd]
    have B0 : Below w.heap.size w wd := by rw [hwd]; exact (by repeat (first | with_reducible exact Below.refl _ _ | with_reducible refine Below.setCell ?_ (by first | omega | (simp; done) | (simp; omega)) _ | with_reducible refine bDrewN ?_ _ | with_reducible refine Below.drew ?_ | with_reducible refine Below.alloc ?_ (by first | omega | (simp; done) | (simp; omega)) _))
    have p0 : wd.cell? ⟨w.heap.size, 0, none⟩ = some (.int .i64 x) := by rw [hwd]; simp [go_sem]
    have p1 : wd.cell? ⟨w.heap.size, 1, none⟩ = some (.slice s n c) := by rw [hwd]; simp [go_sem]
    have zd : w.heap.size < wd.heap.size := by rw [hwd]; simp
    have HB : Hid (Below w.heap.size w wd) := B0
    clear hwd B0
    refine wp_region_held_drew (S := fun w' => w'.cell? ⟨w.heap.size, 0, none⟩ = some (.int .i64 x) ∧ w'.cell? ⟨w.heap.size, 1, none⟩ = some (.slice s n c)) (by kernel_rfl) ?_ (fun hHeld => ?_)
    · exact keepT p0 p1 zd (by repeat (first | with_reducible exact Below.refl _ _ | with_reducible refine Below.setCell ?_ (by first | omega | (simp; done) | (simp; omega)) _ | with_reducible refine bDrewN ?_ _ | with_reducible refine Below.drew ?_ | with_reducible refine Below.alloc ?_ (by first | omega | (simp; done) | (simp; omega)) _))
    refine wpAnyH_take (i := 0) (v := .agg #[.int .i64 x, .slice s n c]) rfl (by kernel_rfl) (by kernel_rfl) (by kernel_rfl) (fun _ _ _ h => h) (Or.inl ⟨by kernel_rfl, ?_⟩) hHeld ?_
    · intro w' hSw
      obtain ⟨s0, s1⟩ := hSw
      first | (go_simp; done) | (go_simp; with_reducible rfl)
    simp only [Act.put, List.setIfInBounds_toArray, List.set_cons_zero, List.set_cons_succ]
    refine wpAnyH_ready (rs := [1]) (by kernel_rfl) (by simp) ?_
    refine AllReadyH.cons rfl (fun KK hK => ?_) AllReadyH.nil
    go_simp
    go_wp2_with (first | (go_at_call 46; refine (HT.out _ (HB.out.trans (Below.mono (by repeat (first | with_reducible exact Below.refl _ _ | with_reducible refine Below.setCell ?_ (by first | omega | (simp; done) | (simp; omega)) _ | with_reducible refine bDrewN ?_ _ | with_reducible refine Below.drew ?_ | with_reducible refine Below.alloc ?_ (by first | omega | (simp; done) | (simp; omega)) _)) HB.out.size))).mono ?_; rintro e w7 ⟨rfl, h7⟩; have B7 : Below wd.heap.size wd w7 := Below.trans (by repeat (first | with_reducible exact Below.refl _ _ | with_reducible refine Below.setCell ?_ (by first | omega | (simp; done) | (simp; omega)) _ | with_reducible refine bDrewN ?_ _ | with_reducible refine Below.drew ?_ | with_reducible refine Below.alloc ?_ (by first | omega | (simp; done) | (simp; omega)) _)) (h7.mono (by first | omega | (simp; done) | (simp; omega))); have s7 := B7.size; clear h7))
    refine hK.out _ _ (keepT p0 p1 zd B7) (fun hHeld => ?_)
    clear hK KK
    refine wpAnyH_take (i := 2) (v := .bool false) rfl (by kernel_rfl) (by kernel_rfl) (by kernel_rfl) (fun _ _ _ h => h) (Or.inl ⟨by kernel_rfl, ?_⟩) hHeld ?_
    · intro w' hSw
      obtain ⟨s0, s1⟩ := hSw
      first | (go_simp; done) | (go_simp; with_reducible rfl)
    simp only [Act.put, List.setIfInBounds_toArray, List.set_cons_zero, List.set_cons_succ]
    refine wpAnyH_take (i := 3) (v := undef) rfl (by kernel_rfl) (by kernel_rfl) (by kernel_rfl) (fun _ _ _ h => h) (Or.inr ⟨by kernel_rfl, rfl⟩) hHeld ?_
    simp only [Act.put, List.setIfInBounds_toArray, List.set_cons_zero, List.set_cons_succ]
    refine wpAnyH_take (i := 4) (v := undef) rfl (by kernel_rfl) (by kernel_rfl) (by kernel_rfl) (fun _ _ _ h => h) (Or.inr ⟨by kernel_rfl, rfl⟩) hHeld ?_
    simp only [Act.put, List.setIfInBounds_toArray, List.set_cons_zero, List.set_cons_succ]
    refine wpAnyH_take (i := 5) (v := undef) rfl (by kernel_rfl) (by kernel_rfl) (by kernel_rfl) (fun _ _ _ h => h) (Or.inr ⟨by kernel_rfl, rfl⟩) hHeld ?_
    simp only [Act.put, List.setIfInBounds_toArray, List.set_cons_zero, List.set_cons_succ]
    refine wpAnyH_take (i := 6) (v := undef) rfl (by kernel_rfl) (by kernel_rfl) (by kernel_rfl) (fun _ _ _ h => h) (Or.inr ⟨by kernel_rfl, rfl⟩) hHeld ?_
    simp only [Act.put, List.setIfInBounds_toArray, List.set_cons_zero, List.set_cons_succ]
    refine wpAnyH_take (i := 7) (v := undef) rfl (by kernel_rfl) (by kernel_rfl) (by kernel_rfl) (fun _ _ _ h => h) (Or.inr ⟨by kernel_rfl, rfl⟩) hHeld ?_
    simp only [Act.put, List.setIfInBounds_toArray, List.set_cons_zero, List.set_cons_succ]
    refine wpAnyH_take (i := 8) (v := .bool false) rfl (by kernel_rfl) (by kernel_rfl) (by kernel_rfl) (fun _ _ _ h => h) (Or.inl ⟨by kernel_rfl, ?_⟩) hHeld ?_
    · intro w' hSw
      obtain ⟨s0, s1⟩ := hSw
      first | (go_simp; done) | (go_simp; with_reducible rfl)
    simp only [Act.put, List.setIfInBounds_toArray, List.set_cons_zero, List.set_cons_succ]
    refine wpAnyH_ready (rs := [9]) (by kernel_rfl) (by simp) ?_
    refine AllReadyH.cons rfl (fun KK hK => ?_) AllReadyH.nil
    go_simp
    refine hK.out _ _ hHeld (fun hHeld => ?_)
    clear hK KK
    refine wpAnyH_done (by kernel_rfl) ?_ _
    have B9 : Below w.heap.size w w7 := HB.out.trans (B7.mono HB.out.size)
    go_wp2
    go_ret
    exact ⟨ret_bool HO.out.symm, (by repeat (first | with_reducible exact Below.refl _ _ | with_reducible exact B9 | with_reducible refine Below.setCell ?_ (by first | omega | (simp; done) | (simp; omega)) _ | with_reducible refine bDrewN ?_ _ | with_reducible refine Below.drew ?_ | with_reducible refine Below.alloc ?_ (by first | omega | (simp; done) | (simp; omega)) _))⟩
  · obtain ⟨⟨x0, x1⟩, -, -⟩ := tree_yes q
    obtain ⟨x, rfl⟩ : ∃ y : Nat, x = (y : Int) := ⟨x.toNat, by omega⟩
    have HO : Hid (fyB (x : Int) n X K V m U = faB (setN x U m) x n X K V) := by show _ = _; unfold fyB; rw [q, Int.toNat_natCast]; rfl
    have HQ : Hid (treeB (x : Int) n X K V = true) := q
    rw [q] at HT
    clear q
    go_enter Try.func15, Try.ntmps15
    go_upto_region 1 with fail
    obtain ⟨wd, hwd⟩ : ∃ wd, wd = w.alloc (.cells #[.int .i64 (x : Int), .slice s n c] 26) := ⟨_, rfl⟩
    rw [← hwd]
    have B0 : Below w.heap.size w wd := by rw [hwd]; exact (by repeat (first | with_reducible exact Below.refl _ _ | with_reducible refine Below.setCell ?_ (by first | omega | (simp; done) | (simp; omega)) _ | with_reducible refine bDrewN ?_ _ | with_reducible refine Below.drew ?_ | with_reducible refine Below.alloc ?_ (by first | omega | (simp; done) | (simp; omega)) _))
    have p0 : wd.cell? ⟨w.heap.size, 0, none⟩ = some (.int .i64 (x : Int)) := by rw [hwd]; simp [go_sem]
    have p1 : wd.cell? ⟨w.heap.size, 1, none⟩ = some (.slice s n c) := by rw [hwd]; simp [go_sem]
    have zd : w.heap.size < wd.heap.size := by rw [hwd]; simp
    have HB : Hid (Below w.heap.size w wd) := B0
    clear hwd B0
    refine wp_region_held_drew (S := fun w' => w'.cell? ⟨w.heap.size, 0, none⟩ = some (.int .i64 (x : Int)) ∧ w'.cell? ⟨w.heap.size, 1, none⟩ = some (.slice s n c)) (by kernel_rfl) ?_ (fun hHeld => ?_)
    · exact keepT p0 p1 zd (by repeat (first | with_reducible exact Below.refl _ _ | with_reducible refine Below.setCell ?_ (by first | omega | (simp; done) | (simp; omega)) _ | with_reducible refine bDrewN ?_ _ | with_reducible refine Below.drew ?_ | with_reducible refine Below.alloc ?_ (by first | omega | (simp; done) | (simp; omega)) _))
    refine wpAnyH_take (i := 0) (v := .agg #[.int .i64 (x : Int), .slice s n c]) rfl (by kernel_rfl) (by kernel_rfl) (by kernel_rfl) (fun _ _ _ h => h) (Or.inl ⟨by kernel_rfl, ?_⟩) hHeld ?_
    · intro w' hSw
      obtain ⟨s0, s1⟩ := hSw
      first | (go_simp; done) | (go_simp; with_reducible rfl)
    simp only [Act.put, List.setIfInBounds_toArray, List.set_cons_zero, List.set_cons_succ]
    refine wpAnyH_ready (rs := [1]) (by kernel_rfl) (by simp) ?_
    refine AllReadyH.cons rfl (fun KK hK => ?_) AllReadyH.nil
    go_simp
    go_wp2_with (first | (go_at_call 46; refine (HT.out _ (HB.out.trans (Below.mono (by repeat (first | with_reducible exact Below.refl _ _ | with_reducible refine Below.setCell ?_ (by first | omega | (simp; done) | (simp; omega)) _ | with_reducible refine bDrewN ?_ _ | with_reducible refine Below.drew ?_ | with_reducible refine Below.alloc ?_ (by first | omega | (simp; done) | (simp; omega)) _)) HB.out.size))).mono ?_; rintro e w7 ⟨rfl, h7⟩; have B7 : Below wd.heap.size wd w7 := Below.trans (by repeat (first | with_reducible exact Below.refl _ _ | with_reducible refine Below.setCell ?_ (by first | omega | (simp; done) | (simp; omega)) _ | with_reducible refine bDrewN ?_ _ | with_reducible refine Below.drew ?_ | with_reducible refine Below.alloc ?_ (by first | omega | (simp; done) | (simp; omega)) _)) (h7.mono (by first | omega | (simp; done) | (simp; omega))); have s7 := B7.size; clear h7))
    refine hK.out _ _ (keepT p0 p1 zd B7) (fun hHeld => ?_)
    clear hK KK
    refine wpAnyH_take (i := 2) (v := .bool true) rfl (by kernel_rfl) (by kernel_rfl) (by kernel_rfl) (fun _ _ _ h => h) (Or.inl ⟨by kernel_rfl, ?_⟩) hHeld ?_
    · intro w' hSw
      obtain ⟨s0, s1⟩ := hSw
      first | (go_simp; done) | (go_simp; with_reducible rfl)
    simp only [Act.put, List.setIfInBounds_toArray, List.set_cons_zero, List.set_cons_succ]
    refine wpAnyH_take (i := 3) (v := .agg #[.int .i64 (x : Int), .slice s n c]) rfl (by kernel_rfl) (by kernel_rfl) (by kernel_rfl) (fun _ _ _ h => h) (Or.inl ⟨by kernel_rfl, ?_⟩) hHeld ?_
    · intro w' hSw
      obtain ⟨s0, s1⟩ := hSw
      first | (go_simp; done) | (go_simp; with_reducible rfl)
    simp only [Act.put, List.setIfInBounds_toArray, List.set_cons_zero, List.set_cons_succ]
    refine wpAnyH_take (i := 4) (v := .agg #[.int .i64 (x : Int), .slice s n c]) rfl (by kernel_rfl) (by kernel_rfl) (by kernel_rfl) (fun _ _ _ h => h) (Or.inl ⟨by kernel_rfl, ?_⟩) hHeld ?_
    · intro w' hSw
      obtain ⟨s0, s1⟩ := hSw
      first | (go_simp; done) | (go_simp; with_reducible rfl)
    simp only [Act.put, List.setIfInBounds_toArray, List.set_cons_zero, List.set_cons_succ]
    refine wpAnyH_take (i := 5) (v := .slice t m d) rfl (by kernel_rfl) (by kernel_rfl) (by kernel_rfl) (fun _ _ _ h => h) (Or.inl ⟨by kernel_rfl, ?_⟩) hHeld ?_
    · intro w' hSw
      obtain ⟨s0, s1⟩ := hSw
      first | (go_simp; done) | (go_simp; with_reducible rfl)
    simp only [Act.put, List.setIfInBounds_toArray, List.set_cons_zero, List.set_cons_succ]
    refine wpAnyH_ready (rs := [6]) (by kernel_rfl) (by simp) ?_
    refine AllReadyH.cons rfl (fun KK hK => ?_) AllReadyH.nil
    go_simp
    go_wp2_with (first | (go_at_call 48; refine (basicsAmong_any x s n c t m d U _ x1 hm (HU.out.below (HB.out.trans (Below.mono B7 HB.out.size)))).mono ?_; rintro e w8 ⟨rfl, h8⟩; have B8 : Below wd.heap.size wd w8 := B7.trans (h8.mono s7); have s8 := B8.size; clear h8))
    refine hK.out _ _ (keepT p0 p1 zd B8) (fun hHeld => ?_)
    clear hK KK
    refine wpAnyH_ready (rs := [7]) (by kernel_rfl) (by simp) ?_
    refine AllReadyH.cons rfl (fun KK hK => ?_) AllReadyH.nil
    go_simp
    go_wp2_with (first | (go_at_call 47; refine (fails_any (setN x U m) x s n c X K V _ HQ (set_lt x U m) (HR.out.below (HB.out.trans (Below.mono B8 HB.out.size)))).mono ?_; rintro e w9 ⟨rfl, h9⟩; have B9 : Below wd.heap.size wd w9 := B8.trans (h9.mono s8); clear h9))
    refine hK.out _ _ (keepT p0 p1 zd B9) (fun hHeld => ?_)
    clear hK KK
    refine wpAnyH_take (i := 8) (v := .bool (faB (setN x U m) x n X K V)) rfl (by kernel_rfl) (by kernel_rfl) (by kernel_rfl) (fun _ _ _ h => h) (Or.inl ⟨by kernel_rfl, ?_⟩) hHeld ?_
    · intro w' hSw
      obtain ⟨s0, s1⟩ := hSw
      first | (go_simp; done) | (go_simp; with_reducible rfl)
    simp only [Act.put, List.setIfInBounds_toArray, List.set_cons_zero, List.set_cons_succ]
    refine wpAnyH_ready (rs := [9]) (by kernel_rfl) (by simp) ?_
    refine AllReadyH.cons rfl (fun KK hK => ?_) AllReadyH.nil
    go_simp
    refine hK.out _ _ hHeld (fun hHeld => ?_)
    clear hK KK
    refine wpAnyH_done (by kernel_rfl) ?_ _
    have B10 : Below w.heap.size w w9 := HB.out.trans (B9.mono HB.out.size)
    go_wp2
    go_ret
    exact ⟨ret_bool HO.out.symm, (by repeat (first | with_reducible exact Below.refl _ _ | with_reducible exact B10 | with_reducible refine Below.setCell ?_ (by first | omega | (simp; done) | (simp; omega)) _ | with_reducible refine bDrewN ?_ _ | with_reducible refine Below.drew ?_ | with_reducible refine Below.alloc ?_ (by first | omega | (simp; done) | (simp; omega)) _))⟩

open Go.ChangeShapes Go.WideShapes Go.ChangeAt Go.RowKit
set_option linter.unusedVariables false
set_option linter.unusedSimpArgs false

theorem set_bit (x : Nat) (U : Nat → Int) (i : Nat) : ∀ m, (setN x U m).testBit i = true ↔ ∃ r, r < m ∧ U r = (i : Int) ∧ i < x := by
  intro m
  induction m with
  | zero => exact ⟨fun h => (by simp [setN] at h), fun ⟨r, h, _⟩ => by omega⟩
  | succ m ih =>
    unfold setN
    split
    · rename_i h
      obtain ⟨h1, h2⟩ := inB_yes h
      rw [Nat.testBit_or, Bool.or_eq_true, ih]
      constructor
      · rintro (⟨r, r1, r2⟩ | h3)
        · exact ⟨r, by omega, r2⟩
        · have : (U m).toNat = i := by
            by_cases e : (U m).toNat = i
            · exact e
            · rw [Nat.testBit_two_pow_of_ne e] at h3; cases h3
          exact ⟨m, by omega, by omega, by omega⟩
      · rintro ⟨r, r1, r2, r3⟩
        by_cases e : r = m
        · subst e
          right
          have : (U r).toNat = i := by omega
          rw [this, Nat.testBit_two_pow_self]
        · left; exact ⟨r, by omega, r2, r3⟩
    · rename_i h
      rw [ih]
      constructor
      · rintro ⟨r, r1, r2⟩; exact ⟨r, by omega, r2⟩
      · rintro ⟨r, r1, r2, r3⟩
        by_cases e : r = m
        · subst e
          exfalso
          apply h
          unfold inB
          rw [r2]
          simp
          omega
        · exact ⟨r, by omega, r2, r3⟩
theorem cnt_mono {f g : Nat} (h : ∀ i, f.testBit i = true → g.testBit i = true) (v : Nat → Int) : ∀ j, cntB f v j ≤ cntB g v j := by
  intro j
  induction j with
  | zero => exact Int.le_refl _
  | succ j ih =>
    unfold cntB
    by_cases e : f.testBit (v j).toNat = true
    · rw [if_pos e, if_pos (h _ e)]; omega
    · rw [if_neg e]
      split <;> omega
theorem fl_mono {b b' x : Nat} {X : Nat → Int} {K : Nat → Nat} {V : Nat → Nat → Int} (h : ∀ i, b.testBit i = true → b'.testBit i = true) : ∀ k i, (fl b x X K V k).testBit i = true → (fl b' x X K V k).testBit i = true := by
  intro k
  induction k with
  | zero => exact h
  | succ k ih =>
    intro i hi
    have hc := cnt_mono ih (V k) (K k)
    by_cases e : X k ≤ cntB (fl b x X K V k) (V k) (K k)
    · have hi : (fl b x X K V k ||| 2 ^ (x + k)).testBit i = true := by
        have e1 : fl b x X K V (k + 1) = fl b x X K V k ||| 2 ^ (x + k) := by show (if _ then _ else _) = _; rw [if_pos e]
        rw [e1] at hi; exact hi
      have e2 : fl b' x X K V (k + 1) = fl b' x X K V k ||| 2 ^ (x + k) := by show (if _ then _ else _) = _; rw [if_pos (by omega)]
      rw [e2, Nat.testBit_or, Bool.or_eq_true]
      rw [Nat.testBit_or, Bool.or_eq_true] at hi
      rcases hi with q | q
      · exact Or.inl (ih i q)
      · exact Or.inr q
    · have hi : (fl b x X K V k).testBit i = true := by
        have e1 : fl b x X K V (k + 1) = fl b x X K V k := by show (if _ then _ else _) = _; rw [if_neg e]
        rw [e1] at hi; exact hi
      have h2 := ih i hi
      show (if X k ≤ cntB (fl b' x X K V k) (V k) (K k) then fl b' x X K V k ||| 2 ^ (x + k) else fl b' x X K V k).testBit i = true
      split
      · rw [Nat.testBit_or, h2]; rfl
      · exact h2
theorem fy_mono {x : Int} {n : Nat} {X : Nat → Int} {K : Nat → Nat} {V : Nat → Nat → Int} {m l : Nat} {U W : Nat → Int} (h : ∀ r, r < m → ∃ q, q < l ∧ W q = U r) (g : fyB x n X K V m U = true) : fyB x n X K V l W = true := by
  unfold fyB at g ⊢
  rw [Bool.and_eq_true] at g ⊢
  refine ⟨g.1, fl_mono (fun i hi => ?_) n _ g.2⟩
  obtain ⟨r, r1, r2, r3⟩ := (set_bit x.toNat U i m).1 hi
  obtain ⟨q, q1, q2⟩ := h r r1
  exact (set_bit x.toNat W i l).2 ⟨q, q1, q2.trans r2, r3⟩
def hasW (V : Nat → Int) (n : Nat) (x : Int) : Bool := decide (∃ j, j < n ∧ V j = x)

end Go.Proofs.Ytpaiajeigdifcaa
