/-
What is proved: cmp.Compare of ints and of uint32s, cmp.Or of two ints.
-/
import Derived.Test.YtpaiajeigdifcaaMfO
import Derived.BigQuiet
import Derived.Deep.DeepCutAuto
import Derived.Test.YtpaiajeigdifcaaMfF
import Derived.Test.YtpaiajeigdifcaaOwn
namespace Go.Proofs.Ytpaiajeigdifcaa
set_option maxRecDepth 40000
open Go.ChangeShapes Go.WideShapes Go.ChangeAt Go.RowKit
set_option linter.unusedVariables false
set_option linter.unusedSimpArgs false

def cmpV (a b : Int) : Int := if a < b then -1 else if b < a then 1 else 0
theorem cmp_lt {a b : Int} (h : a < b) : cmpV a b = -1 := by unfold cmpV; rw [if_pos h]
theorem cmp_ge {a b : Int} (h : b ≤ a) : 0 ≤ cmpV a b ∧ cmpV a b ≤ 1 := by
  unfold cmpV
  rw [if_neg (by omega)]
  split <;> omega
theorem cmp_neg (a b : Int) : cmpV a b < 0 ↔ a < b := by
  unfold cmpV
  split
  · omega
  · split <;> omega
set_option maxHeartbeats 400000 in
theorem isNaN_i64 (a : Int) (w : World) : Calls Try.prog 103 #[.int .i64 a] w fun e w' => e = .returned (.bool false) ∧ w' = w := by
  have h : (a != a) = false := bne_self_eq_false a
  go_enter Try.func103, Try.ntmps103
  go_wp2
  go_ret
  exact ⟨rfl, rfl⟩
set_option maxHeartbeats 800000 in
theorem compare_i64 (a b : Int) (w : World) : Calls Try.prog 96 #[.int .i64 a, .int .i64 b] w fun e w' => e = .returned (.int .i64 (cmpV a b)) ∧ w' = w := by
  go_enter Try.func96, Try.ntmps96
  go_wp2_with fail
  refine (isNaN_i64 a _).mono ?_
  rintro e w ⟨rfl, rfl⟩
  go_wp2_with fail
  refine (isNaN_i64 b _).mono ?_
  rintro e w ⟨rfl, rfl⟩
  by_cases h1 : a < b
  · have HO : Hid (cmpV a b = -1) := cmp_lt h1
    go_wp2
    go_ret
    exact ⟨ret_int HO.out.symm, rfl⟩
  have h1' : decide (a < b) = false := decide_eq_false h1
  by_cases h2 : b < a
  · have HO : Hid (cmpV a b = 1) := by show _ = _; unfold cmpV; rw [if_neg h1, if_pos h2]
    go_wp2
    go_ret
    exact ⟨ret_int HO.out.symm, rfl⟩
  have h2' : decide (b < a) = false := decide_eq_false h2
  have HO : Hid (cmpV a b = 0) := by show _ = _; unfold cmpV; rw [if_neg h1, if_neg h2]
  clear h1 h2
  go_wp2
  go_ret
  exact ⟨ret_int HO.out.symm, rfl⟩
set_option maxHeartbeats 400000 in
theorem isNaN_u32 (a : Int) (w : World) : Calls Try.prog 104 #[.int .u32 a] w fun e w' => e = .returned (.bool false) ∧ w' = w := by
  have h : (a != a) = false := bne_self_eq_false a
  go_enter Try.func104, Try.ntmps104
  go_wp2
  go_ret
  exact ⟨rfl, rfl⟩
set_option maxHeartbeats 800000 in
theorem compare_u32 (a b : Int) (w : World) : Calls Try.prog 98 #[.int .u32 a, .int .u32 b] w fun e w' => e = .returned (.int .i64 (cmpV a b)) ∧ w' = w := by
  go_enter Try.func98, Try.ntmps98
  go_wp2_with fail
  refine (isNaN_u32 a _).mono ?_
  rintro e w ⟨rfl, rfl⟩
  go_wp2_with fail
  refine (isNaN_u32 b _).mono ?_
  rintro e w ⟨rfl, rfl⟩
  by_cases h1 : a < b
  · have HO : Hid (cmpV a b = -1) := cmp_lt h1
    go_wp2
    go_ret
    exact ⟨ret_int HO.out.symm, rfl⟩
  have h1' : decide (a < b) = false := decide_eq_false h1
  by_cases h2 : b < a
  · have HO : Hid (cmpV a b = 1) := by show _ = _; unfold cmpV; rw [if_neg h1, if_pos h2]
    go_wp2
    go_ret
    exact ⟨ret_int HO.out.symm, rfl⟩
  have h2' : decide (b < a) = false := decide_eq_false h2
  have HO : Hid (cmpV a b = 0) := by show _ = _; unfold cmpV; rw [if_neg h1, if_neg h2]
  clear h1 h2
  go_wp2
  go_ret
  exact ⟨ret_int HO.out.symm, rfl⟩
def orV (a b : Int) : Int := if a = 0 then b else a
def OrZ (a b : Int) (j : Nat) : Prop := (0 < j → a = 0) ∧ (1 < j → b = 0)
set_option maxHeartbeats 800000 in
theorem or_any (g : Nat) (a b : Int) (w : World) (zg : g < w.heap.size) (c0 : w.cell? ⟨g, 0, none⟩ = some (.int .i64 a)) (c1 : w.cell? ⟨g, 1, none⟩ = some (.int .i64 b)) :
    Calls Try.prog 95 #[.slice (some ⟨g, 0, none⟩) 2 2] w fun e w' => e = .returned (.int .i64 (orV a b)) ∧ Below w.heap.size w w' := by
  go_enter Try.func95, Try.ntmps95
  go_wp2_with fail
  go_loopw [8] (fun i wr => ∃ j : Nat, j ≤ 2 ∧ i = .int .i64 j ∧ Hid (OrZ a b j) ∧ Hid (Below w.heap.size w wr)) (fun i _ => 2 - (intOf i).toNat)
  case atStart => exact ⟨0, by omega, rfl, ⟨fun h => by omega, fun h => by omega⟩, Below.refl _ _⟩
  case round =>
    obtain ⟨j, hj, rfl, HZ, HB⟩ := hrel
    rename World => wr
    have B1 := HB.out
    have d0 := (B1.cell (p := ⟨g, 0, none⟩) zg).trans c0
    have d1 := (B1.cell (p := ⟨g, 1, none⟩) zg).trans c1
    have z1 := Nat.lt_of_lt_of_le zg B1.size
    by_cases q0 : j = 0
    · subst q0
      by_cases h0 : a = 0
      · have HN : Hid (OrZ a b 1) := ⟨fun _ => h0, fun h => by omega⟩
        have h0b : (a != 0) = false := by simpa using h0
        clear h0
        go_wp2
        go_roundw
        case rel => exact ⟨1, by omega, by first | rfl | go_num, HN, HB⟩
        case measure => first | (simp [intOf]; done) | (simp [intOf]; omega)
      · have h1 : (a != 0) = true := by simpa using h0
        have HO : Hid (orV a b = a) := if_neg h0
        go_wp2
        go_ret
        exact ⟨by rw [HO.out]; rfl, B1⟩
    · by_cases q1 : j = 1
      · subst q1
        have ha := HZ.out.1 (by omega)
        have HO : Hid (orV a b = b) := if_pos ha
        clear ha
        by_cases h0 : b = 0
        · have HN : Hid (OrZ a b 2) := ⟨fun _ => HZ.out.1 (by omega), fun h => h0⟩
          have h0b : (b != 0) = false := by simpa using h0
          clear h0
          go_wp2
          go_roundw
          case rel => exact ⟨2, by omega, by first | rfl | go_num, HN, HB⟩
          case measure => first | (simp [intOf]; done) | (simp [intOf]; omega)
        · have h1 : (b != 0) = true := by simpa using h0
          go_wp2
          go_ret
          exact ⟨by rw [HO.out]; rfl, B1⟩
      · obtain rfl : j = 2 := by omega
        have HO : Hid (orV a b = 0) := by
          show _ = _
          unfold orV
          rw [if_pos (HZ.out.1 (by omega)), HZ.out.2 (by omega)]
        go_wp2
        go_ret
        exact ⟨by rw [HO.out]; rfl, B1⟩

open Go.ChangeShapes Go.WideShapes Go.ChangeAt Go.RowKit
set_option linter.unusedVariables false
set_option linter.unusedSimpArgs false

theorem and255_all : ((List.range 1024).all fun x => decide (bits .and .u32 (x : Int) 255 = ((x % 256 : Nat) : Int))) = true := by kernel_rfl
theorem and255 {x : Nat} (hx : x < 1024) : bits .and .u32 (x : Int) 255 = ((x % 256 : Nat) : Int) := of_decide_eq_true (List.all_eq_true.1 and255_all x (List.mem_range.2 hx))
/-- How many of the first f bits are set. -/
def popN : Nat → Nat → Nat
  | 0, _ => 0
  | f + 1, n => n % 2 + popN f (n / 2)
theorem popN_le : ∀ f n, popN f n ≤ f
  | 0, _ => Nat.le_refl _
  | f + 1, n => by have := popN_le f (n / 2); show n % 2 + popN f (n / 2) ≤ f + 1; omega
theorem tab_at {T : ByteArray} (hT : ((List.range 256).all fun i => (T.data[i]?.map UInt8.toNat) == some (popN 8 i)) = true) {i : Nat} (p : i < T.size) (hi : i < 256) : (T[i]'p).toNat = popN 8 i := by
  have h := List.all_eq_true.1 hT i (List.mem_range.2 hi)
  have e : T.data[i]? = some (T[i]'p) := Array.getElem?_eq_getElem p
  rw [e] at h
  simpa using h
theorem tab_sum {T : ByteArray} (hT : ((List.range 256).all fun i => (T.data[i]?.map UInt8.toNat) == some (popN 8 i)) = true) {h l : Nat} (p0 : 0 < T.size) (ph : h < T.size) (pl : l < T.size) (hh : h < 4) (hl : l < 256) : ((((T[0]'p0).toNat : Nat) : Int) + (((T[0]'p0).toNat : Nat) : Int) + (((T[h]'ph).toNat : Nat) : Int) + (((T[l]'pl).toNat : Nat) : Int)) % 256 = ((popN 8 h + popN 8 l : Nat) : Int) := by
  rw [tab_at hT p0 (by omega), tab_at hT ph (by omega), tab_at hT pl hl, show popN 8 0 = 0 from rfl]
  have := popN_le 8 h
  have := popN_le 8 l
  omega
set_option maxRecDepth 20000 in
set_option maxHeartbeats 1600000 in
theorem ones_any (x h l : Nat) (hx : x = 256 * h + l) (hh : h < 4) (hl : l < 256) (w : World) :
    Calls Try.prog 97 #[.int .u32 (x : Int)] w fun e w' => e = .returned (.int .i64 ((popN 8 h + popN 8 l : Nat) : Int)) ∧ Below w.heap.size w w' := by
  have x1 : (x : Int) < 1024 := by omega
  have s24 : (x : Int) / 16777216 = 0 := by omega
  have s16 : (x : Int) / 65536 = 0 := by omega
  have s8 : (x : Int) / 256 = (h : Int) := by omega
  have n24 : x / 16777216 = 0 := by omega
  have n16 : x / 65536 = 0 := by omega
  have n8 : x / 256 = h := by omega
  have h1 : (h : Int) < 256 := by omega
  have l1 : (l : Int) < 256 := by omega
  have a0 : bits .and .u32 0 255 = 0 := by have := and255 (x := 0) (by omega); simpa using this
  have ah : bits .and .u32 (h : Int) 255 = (h : Int) := by rw [and255 (by omega), Nat.mod_eq_of_lt (by omega)]
  have al : bits .and .u32 (x : Int) 255 = (l : Int) := by rw [and255 (by omega)]; congr 1; omega
  clear hx
  go_enter Try.func97, Try.ntmps97
  go_upto_region 1 with fail
  go_quiet (fail)
  go_wp2
  go_ret
  refine ⟨?_, (by repeat (first | with_reducible exact Below.refl _ _ | with_reducible refine Below.setCell ?_ (by first | omega | (simp; done) | (simp; omega)) _ | with_reducible refine bDrewN ?_ _ | with_reducible refine Below.drew ?_ | with_reducible refine Below.alloc ?_ (by first | omega | (simp; done) | (simp; omega)) _))⟩
  congr 1
  exact congrArg (Value.int .i64) (tab_sum (by kernel_rfl) _ _ _ hh hl)

open Go.ChangeShapes Go.WideShapes Go.ChangeAt Go.RowKit
set_option linter.unusedVariables false
set_option linter.unusedSimpArgs false

def mixF (s m y : Int) : Int := bits .or .u32 (bits .and .u32 (y / s) m) (bits .and .u32 y m * s % 4294967296)
def rbF (x : Int) : Int := bits .or .u32 (mixF 256 16711935 x / 65536) (mixF 256 16711935 x * 65536 % 4294967296)
def revF (x : Int) : Int := rbF (mixF 16 252645135 (mixF 4 858993459 (mixF 2 1431655765 x)))
set_option maxRecDepth 20000 in
set_option maxHeartbeats 1600000 in
theorem revBytes_any (x : Int) (w : World) :
    Calls Try.prog 105 #[.int .u32 x] w fun e w' => e = .returned (.int .u32 (rbF x)) ∧ w' = w := by
  go_enter Try.func105, Try.ntmps105
  go_wp2
  go_ret
  exact ⟨rfl, rfl⟩
set_option maxRecDepth 20000 in
set_option maxHeartbeats 1600000 in
theorem rev_any (x : Int) (w : World) :
    Calls Try.prog 99 #[.int .u32 x] w fun e w' => e = .returned (.int .u32 (revF x)) ∧ w' = w := by
  go_enter Try.func99, Try.ntmps99
  go_wp2_with fail
  refine (revBytes_any _ _).mono ?_
  rintro e w1 ⟨rfl, rfl⟩
  go_wp2
  go_ret
  exact ⟨rfl, rfl⟩
theorem or_neg (a b : Int) : orV a b < 0 ↔ a < 0 ∨ (a = 0 ∧ b < 0) := by
  unfold orV
  split
  · rename_i h; subst h; simp
  · omega
theorem cmp_zero (a b : Int) : cmpV a b = 0 ↔ a = b := by
  unfold cmpV
  split
  · omega
  · split <;> omega
def popS (x : Nat) : Nat := popN 8 (x / 256) + popN 8 (x % 256)
set_option maxRecDepth 20000 in
set_option maxHeartbeats 1600000 in
theorem compareF_any (x y : Nat) (hx : x < 1024) (hy : y < 1024) (w : World) :
    Calls Try.prog 82 #[.int .u32 (x : Int), .int .u32 (y : Int)] w fun e w' => e = .returned (.int .i64 (orV (cmpV (popS x : Int) (popS y : Int)) (cmpV (revF (y : Int)) (revF (x : Int))))) ∧ Below w.heap.size w w' := by
  have HX : Hid (∀ w, Calls Try.prog 97 #[.int .u32 (x : Int)] w fun e w' => e = .returned (.int .i64 (popS x : Int)) ∧ Below w.heap.size w w') := fun w => ones_any x (x / 256) (x % 256) (by omega) (by omega) (by omega) w
  have HY : Hid (∀ w, Calls Try.prog 97 #[.int .u32 (y : Int)] w fun e w' => e = .returned (.int .i64 (popS y : Int)) ∧ Below w.heap.size w w') := fun w => ones_any y (y / 256) (y % 256) (by omega) (by omega) (by omega) w
  obtain ⟨p, hp⟩ : ∃ p : Int, (popS x : Int) = p := ⟨_, rfl⟩
  obtain ⟨q, hq⟩ : ∃ q : Int, (popS y : Int) = q := ⟨_, rfl⟩
  obtain ⟨r, hr⟩ : ∃ r : Int, revF (x : Int) = r := ⟨_, rfl⟩
  obtain ⟨t, ht⟩ : ∃ t : Int, revF (y : Int) = t := ⟨_, rfl⟩
  have HRX : Hid (∀ w, Calls Try.prog 99 #[.int .u32 (x : Int)] w fun e w' => e = .returned (.int .u32 r) ∧ w' = w) := fun w => by rw [← hr]; exact rev_any _ w
  have HRY : Hid (∀ w, Calls Try.prog 99 #[.int .u32 (y : Int)] w fun e w' => e = .returned (.int .u32 t) ∧ w' = w) := fun w => by rw [← ht]; exact rev_any _ w
  rw [hp] at HX ⊢
  rw [hq] at HY ⊢
  rw [hr, ht]
  clear hp hq hr ht
  obtain ⟨A, hA⟩ : ∃ A, cmpV p q = A := ⟨_, rfl⟩
  obtain ⟨C, hC⟩ : ∃ C, cmpV t r = C := ⟨_, rfl⟩
  have HCA : Hid (∀ w, Calls Try.prog 96 #[.int .i64 p, .int .i64 q] w fun e w' => e = .returned (.int .i64 A) ∧ w' = w) := fun w => by rw [← hA]; exact compare_i64 p q w
  have HCC : Hid (∀ w, Calls Try.prog 98 #[.int .u32 t, .int .u32 r] w fun e w' => e = .returned (.int .i64 C) ∧ w' = w) := fun w => by rw [← hC]; exact compare_u32 t r w
  rw [hA, hC]
  clear hA hC
  go_enter Try.func82, Try.ntmps82
  go_wp2_with fail
  refine (HX.out _).mono ?_
  rintro e w1 ⟨rfl, b1⟩
  have HB : Hid (Below w.heap.size w w1) := b1
  clear b1
  go_wp2_with fail
  refine (HY.out _).mono ?_
  rintro e w2 ⟨rfl, b2⟩
  replace HB : Hid (Below w.heap.size w w2) := HB.out.trans (b2.mono HB.out.size)
  clear b2
  go_wp2_with fail
  refine (HCA.out _).mono ?_
  rintro e w2 ⟨rfl, rfl⟩
  go_wp2_with fail
  refine (HRY.out _).mono ?_
  rintro e w2 ⟨rfl, rfl⟩
  go_wp2_with fail
  refine (HRX.out _).mono ?_
  rintro e w2 ⟨rfl, rfl⟩
  go_wp2_with fail
  refine (HCC.out _).mono ?_
  rintro e w2 ⟨rfl, rfl⟩
  have B2 := HB.out
  go_wp2_with fail
  refine (or_any w2.heap.size A C _ (by simp) (by simp [go_sem]) (by simp [go_sem])).mono ?_
  rintro e w3 ⟨rfl, b3⟩
  have HB3 : Hid (Below w.heap.size w w3) := (HB.out.trans ((below0 _ _).mono HB.out.size)).trans (b3.mono (by have := HB.out.size; simp; omega))
  clear b3
  go_wp2
  go_ret
  exact ⟨rfl, HB3.out⟩

open Go.ChangeShapes Go.WideShapes Go.ChangeAt Go.RowKit
set_option linter.unusedVariables false
set_option linter.unusedSimpArgs false

def keyP (x : Int) : Int := (popS x.toNat : Int)
/-- Which of two sets goes ahead: the one that has fewer, of two that have as many the one whose bits turned round are more. -/
def ltF (x y : Int) : Prop := keyP x < keyP y ∨ (keyP x = keyP y ∧ (revF y < revF x ∨ (revF x = revF y ∧ x < y)))
theorem ltF_tr : ∀ x y z, ltF x y → ltF y z → ltF x z := by
  intro x y z
  unfold ltF
  omega
theorem ltF_tot : ∀ x y, x < y → ¬ ltF y x → ltF x y := by
  intro x y
  unfold ltF
  omega
theorem ltF_irr (x : Int) : ¬ ltF x x := by
  unfold ltF
  omega
theorem cmpF_any (Cap : World → Prop) (c1 c2 : Value) : CmpK (fun x => 0 ≤ x ∧ x < 1024) Cap ltF c1 c2 := by
  intro w x y _ ox oy hxy
  obtain ⟨X, rfl⟩ : ∃ X : Nat, x = (X : Int) := ⟨x.toNat, by omega⟩
  obtain ⟨Y, rfl⟩ : ∃ Y : Nat, y = (Y : Int) := ⟨y.toNat, by omega⟩
  refine (compareF_any Y X (by omega) (by omega) w).mono ?_
  rintro e w' ⟨h1, h2⟩
  refine ⟨_, h1, ?_, h2⟩
  rw [or_neg, cmp_neg, cmp_zero, cmp_neg]
  unfold ltF keyP
  simp only [Int.toNat_natCast]
  omega

open Go.RowKit
set_option linter.unusedVariables false

theorem info_i64 : (Try.prog.info? 2).map (fun i => (i.zero, i.size, i.bytes)) = some (some (.int .i64 0), 1, 8) := by kernel_rfl
theorem list_i64 {ops : Array Oper} {rest : List Oper} {o : Oper} {a : Act} {Q : Exit → Act → World → Prop} {W : World} {t : TypeId} {x : Int} (base : Nat) (v : Value) (k : Nat) (xs : List Value) (s z : Operand) (hgd : o.guard = none)
    (ho : o.op = .call { callee := .builtin .append, args := #[s, z], argTypes := #[30, 30] }) (hs : a.eval s = v) (hx : a.eval z = .slice (some ⟨W.heap.size, 0, none⟩) 1 1) (hown : W.ownsRow base 2 1 v k xs) (hk : k ≤ 10000000) (hb : base ≤ W.heap.size)
    (h : ∀ g cap w', w'.ownsRow base 2 1 (.slice (some ⟨g, 0, none⟩) (k + 1) cap) (k + 1) (xs ++ [.int .i64 x]) → W.grownBy w' v.ownBlock → g < w'.heap.size → wpList Try.prog ops Q rest (a.put o.dst (.slice (some ⟨g, 0, none⟩) (k + 1) cap)) w') :
    wpList Try.prog ops Q (o :: rest) a (W.alloc (.cells #[.int .i64 x] t)) := by
  obtain ⟨i0, hi, hz0, hz1, hz2⟩ := info_parts info_i64
  refine wpList_append_lies _ hgd s z 30 ho base 2 i0 (.int .i64 0) 1 8 Try.underlying30 hi hz0 hz1 hz2 rfl (by decide) v k xs hs (hown.alloc _) ⟨W.heap.size, 0, none⟩ 1 1 [.int .i64 x] hx rfl (newsOne _ _ _) ?_ (by decide) (by unfold maxLen; omega) (by omega) (by simp; omega) _ rfl ?_
  · intro u hu
    simp at hu
    subst hu; rfl
  · intro g cap w' h1 h2 _ h3
    exact h g cap w' h1 (grown_new h2) h3

/-- A row that the call makes: its first k are U. -/
def MadeI (base : Nat) (w wr : World) (v : Value) (k : Nat) (U : Nat → Int) : Prop := wr.ownsRow base 2 1 v k (vals U k) ∧ Below base w wr
theorem made_lit (w : World) (U : Nat → Int) {base : Nat} (hb : base ≤ w.heap.size) : MadeI base w (w.alloc (.cells #[] 2)) (.slice (some ⟨w.heap.size, 0, none⟩) 0 0) 0 U :=
  ⟨by simpa [vals] using World.ownsRow_lit (base := base) (size := 1) (e := 2) w #[] 0 hb (by simp [maxLen]) (by simp), (Below.refl _ _).alloc hb _⟩
theorem made_nil (w : World) (U : Nat → Int) {base : Nat} : MadeI base w w (.slice none 0 0) 0 U :=
  ⟨by simpa [vals] using World.ownsRow_nil w base 2 1, Below.refl _ _⟩
theorem made_on {base : Nat} {w wr w1 w2 : World} {v v' : Value} {k : Nat} {U : Nat → Int} (h : MadeI base w wr v k U) (hb : Below wr.heap.size wr w1) (hz : base ≤ wr.heap.size) (hown : w2.ownsRow base 2 1 v' (k + 1) (vals U k ++ [.int .i64 (U k)])) (hg : w1.grownBy w2 v.ownBlock) : MadeI base w w2 v' (k + 1) U := by
  obtain ⟨h1, h2⟩ := h
  have z1 := hb.size
  exact ⟨by rw [vals_succ]; exact hown, (h2.trans (hb.mono hz)).trans (grown_below hg (by omega) (own_block h1))⟩
theorem made_own {base : Nat} {w wr : World} {v : Value} {k : Nat} {U : Nat → Int} (h : MadeI base w wr v k U) : ∃ s cap, v = .slice s k cap ∧ OwnI base wr s k U := by
  have := own_OwnI (size := 1) (U := U) (by rw [Nat.mul_one]; exact h.1)
  rwa [Nat.mul_one] at this
theorem grown_row {W w2 : World} {base : Nat} {v : Value} {n : Nat} {xs : List Value} (ho : W.ownsRow base 2 1 v n xs) (hg : W.grownBy w2 v.ownBlock) {s : Option Addr} {m : Nat} {V : Nat → Int} (h : RowI W s m V) (hb : ∀ b o, s = some ⟨b, o, none⟩ → b < base) : RowI w2 s m V := fun j hj => by
  obtain ⟨b, o, e, hl, hc⟩ := h j hj
  have := hb b o e
  exact ⟨b, o, e, Nat.lt_of_lt_of_le hl hg.size, (hg.cell_far ⟨b, o + j, none⟩ hl (fun e => by have := own_block ho _ e.symm; simp only at this; omega)).trans hc⟩

open Go.RowKit
set_option linter.unusedVariables false

theorem list_i64h {ops : Array Oper} {rest : List Oper} {o : Oper} {a : Act} {Q : Exit → Act → World → Prop} {W : World} {t : TypeId} {x : Int} (base : Nat) (v : Value) (k : Nat) (xs : List Value) (s z : Operand) (hgd : o.guard = none)
    (ho : o.op = .call { callee := .builtin .append, args := #[s, z], argTypes := #[30, 30] }) (hs : a.eval s = v) (hx : a.eval z = .slice (some ⟨W.heap.size, 0, none⟩) 1 1) (hown : W.ownsRow base 2 1 v k xs) (hk : k ≤ 10000000) (hb : base ≤ W.heap.size)
    (h : ∀ g cap w', w'.ownsRow base 2 1 (.slice (some ⟨g, 0, none⟩) (k + 1) cap) (k + 1) (xs ++ [.int .i64 x]) → W.grownBy w' v.ownBlock → g < w'.heap.size → (v.ownBlock = some g ∨ W.heap.size < g) → wpList Try.prog ops Q rest (a.put o.dst (.slice (some ⟨g, 0, none⟩) (k + 1) cap)) w') :
    wpList Try.prog ops Q (o :: rest) a (W.alloc (.cells #[.int .i64 x] t)) := by
  obtain ⟨i0, hi, hz0, hz1, hz2⟩ := info_parts info_i64
  refine wpList_append_lies _ hgd s z 30 ho base 2 i0 (.int .i64 0) 1 8 Try.underlying30 hi hz0 hz1 hz2 rfl (by decide) v k xs hs (hown.alloc _) ⟨W.heap.size, 0, none⟩ 1 1 [.int .i64 x] hx rfl (newsOne _ _ _) ?_ (by decide) (by unfold maxLen; omega) (by omega) (by simp; omega) _ rfl ?_
  · intro u hu
    simp at hu
    subst hu; rfl
  · intro g cap w' h1 h2 h4 h3
    refine h g cap w' h1 (grown_new h2) h3 ?_
    rcases h4 with h4 | h4
    · exact .inl h4
    · right; rw [h4]; simp

theorem own_drewN {w : World} {base : Nat} {e : TypeId} {size : Nat} {v : Value} {n : Nat} {xs : List Value} (h : w.ownsRow base e size v n xs) (q : Nat) : (w.drewN q).ownsRow base e size v n xs := h
theorem below_drewN (w : World) (q : Nat) : Below w.heap.size w (w.drewN q) := bDrewN (Below.refl _ _) q

def cellsOf (l : List Int) : List Value := l.map fun x => .int .i64 x
theorem cellsOf_snoc (l : List Int) (x : Int) : cellsOf (l ++ [x]) = cellsOf l ++ [.int .i64 x] := by simp [cellsOf]
/-- The numbers of a list by their places. -/
def nthI (l : List Int) (j : Nat) : Int := l.getD j 0
theorem vals_nth (l : List Int) : vals (nthI l) l.length = cellsOf l := by
  unfold vals cellsOf
  refine List.ext_getElem? fun i => ?_
  by_cases h : i < l.length
  · simp [h, nthI]
  · simp [h]
/-- A row that the call makes, its numbers a list; its block is b0 or one from H on. -/
def MadeL (base b0 H : Nat) (w wr : World) (v : Value) (l : List Int) : Prop := wr.ownsRow base 2 1 v l.length (cellsOf l) ∧ Below base w wr ∧ ∀ r, v.ownBlock = some r → r = b0 ∨ H ≤ r
theorem madeL_lit (w : World) {base b0 : Nat} (hb : base ≤ w.heap.size) : MadeL base b0 0 w (w.alloc (.cells #[] 2)) (.slice (some ⟨w.heap.size, 0, none⟩) 0 0) [] :=
  ⟨by simpa [cellsOf] using World.ownsRow_lit (base := base) (size := 1) (e := 2) w #[] 0 hb (by simp [maxLen]) (by simp), (Below.refl _ _).alloc hb _, fun r hr => .inr (by omega)⟩
theorem madeL_nil (w : World) {base b0 H : Nat} : MadeL base b0 H w w (.slice none 0 0) [] :=
  ⟨by simpa [cellsOf] using World.ownsRow_nil w base 2 1, Below.refl _ _, fun r hr => by simp [Value.ownBlock] at hr⟩
theorem madeL_on {base b0 H : Nat} {w wr w1 w2 : World} {v : Value} {l : List Int} {g cap : Nat} {x : Int} (h : MadeL base b0 H w wr v l) (hb : Below wr.heap.size wr w1) (hz : base ≤ wr.heap.size) (hH : H ≤ wr.heap.size) (hown : w2.ownsRow base 2 1 (.slice (some ⟨g, 0, none⟩) (l.length + 1) cap) (l.length + 1) (cellsOf l ++ [.int .i64 x])) (hg : w1.grownBy w2 v.ownBlock) (hat : v.ownBlock = some g ∨ w1.heap.size < g) : MadeL base b0 H w w2 (.slice (some ⟨g, 0, none⟩) (l.length + 1) cap) (l ++ [x]) := by
  obtain ⟨h1, h2, h3⟩ := h
  have z1 := hb.size
  refine ⟨by rw [cellsOf_snoc]; simpa using hown, (h2.trans (hb.mono hz)).trans (grown_below hg (by omega) (own_block h1)), fun r hr => ?_⟩
  have hr' : g = r := by simpa [Value.ownBlock] using hr
  subst hr'
  rcases hat with q | q
  · exact h3 g q
  · right; omega
theorem madeL_own {base b0 H : Nat} {w wr : World} {v : Value} {l : List Int} (h : MadeL base b0 H w wr v l) : ∃ s cap, v = .slice s l.length cap ∧ OwnI base wr s l.length (nthI l) ∧ ∀ b o, s = some ⟨b, o, none⟩ → b = b0 ∨ H ≤ b := by
  have h1 := h.1
  rw [← vals_nth] at h1
  obtain ⟨s, cap, e, ho⟩ := own_OwnI (size := 1) (U := nthI l) (by rw [Nat.mul_one]; exact h1)
  rw [Nat.mul_one] at ho
  refine ⟨s, cap, e, ho, fun b o hs => h.2.2 b ?_⟩
  rw [e, hs]; rfl
theorem own_same {w w' : World} {base : Nat} {e : TypeId} {size : Nat} {v : Value} {n : Nat} {xs : List Value} (h : w.ownsRow base e size v n xs) (hs : ∀ g, v.ownBlock = some g → w'.heap[g]? = w.heap[g]?) : w'.ownsRow base e size v n xs := by
  refine ⟨h.1, ?_⟩
  rcases h.2 with q | ⟨g, cap, cur, e1, hb, hg, r⟩
  · exact .inl q
  · exact .inr ⟨g, cap, cur, e1, hb, (hs g (by rw [e1]; rfl)).trans hg, r⟩
/-- A row elsewhere is kept when another one grows. -/
theorem row_grown {W w2 : World} {v : Value} (hg : W.grownBy w2 v.ownBlock) {s : Option Addr} {m : Nat} {V : Nat → Int} (h : RowI W s m V) (hb : ∀ b o, s = some ⟨b, o, none⟩ → v.ownBlock ≠ some b) : RowI w2 s m V := fun j hj => by
  obtain ⟨b, o, e, hl, hc⟩ := h j hj
  exact ⟨b, o, e, Nat.lt_of_lt_of_le hl hg.size, (hg.cell_far ⟨b, o + j, none⟩ hl (fun q => hb b o e q.symm)).trans hc⟩

end Go.Proofs.Ytpaiajeigdifcaa
