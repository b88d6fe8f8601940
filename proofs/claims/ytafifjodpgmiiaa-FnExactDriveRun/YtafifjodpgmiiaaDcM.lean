/-
What is proved: a book of orders: what entering one more does to it, and what the highest one wants.
-/
import Derived.Test.YtafifjodpgmiiaaDcK
import Derived.Test.YtafifjodpgmiiaaBeside
import Derived.Maps.OwnSet
import Derived.Deep.RegionHeld3
import Derived.Deep.DeepCutAuto
namespace Go.Proofs.Ytafifjodpgmiiaa
set_option maxRecDepth 40000
open Go.RowKit Go.Maps Go.Sort Go.Shelf
set_option linter.unusedVariables false
set_option linter.unusedSimpArgs false

theorem mem_keys {P : Program} {k : TypeId} {H : Type} {D : DataW H} {R : Value → Option (DataW H × List MemPlace)} {w : World} {b n : Nat} (hown : w.ownsMap P k R b n D) (hk : P.underlying k = some (.int .i64)) (x : Int) : x ∈ intKeys D ↔ Maps.has D (.int .i64 x) = true := by
  obtain ⟨es, rfl, hko⟩ := hown.keysOf
  have hk2 : ∀ p ∈ es, ∃ y, p.1 = .int .i64 y := fun p hp => by
    obtain ⟨v, hv⟩ := hko p hp
    obtain ⟨y, _, hy, _⟩ := Maps.keyOf_i64 hk hv
    exact ⟨y, hy⟩
  rw [has_eq, List.any_eq_true]
  show x ∈ (es.map fun p => Go.intOf p.1) ↔ _
  rw [List.mem_map]
  constructor
  · rintro ⟨p, hp, rfl⟩
    obtain ⟨a, ha⟩ := hk2 p hp
    exact ⟨p, hp, by rw [ha]; simp [Lit.sameKey, Go.intOf]⟩
  · rintro ⟨p, hp, hs⟩
    obtain ⟨a, ha⟩ := hk2 p hp
    rw [ha] at hs
    exact ⟨p, hp, by rw [ha]; simpa [Lit.sameKey, Go.intOf] using hs⟩
/-- What a level wants; levels that are none want nothing. -/
def lvV (V : Nat → Int) (l : Int) (k : Nat) : Int := if 1 ≤ l ∧ l ≤ 9 then wtL V l k else 0
def cntB (x y : Int) : Bool := inB 1 9 x && (decide (y = 1) || decide (y = -1))
theorem lv_stay {V : Nat → Int} {k : Nat} (h : cntB (V (k * 2)) (V (k * 2 + 1)) = false ∨ lvV V (V (k * 2)) k = -1) (l : Int) : lvV V l (k + 1) = lvV V l k := by
  unfold lvV
  by_cases hl : 1 ≤ l ∧ l ≤ 9
  · rw [if_pos hl, if_pos hl]
    show wtS (wtL V l k) (V (k * 2)) (V (k * 2 + 1)) l = wtL V l k
    unfold wtS
    by_cases e : V (k * 2) = l
    · rw [if_pos e]
      rcases h with h | h
      · have h1 : inB 1 9 (V (k * 2)) = true := decide_eq_true (by omega)
        unfold cntB at h
        rw [h1, Bool.true_and, Bool.or_eq_false_iff] at h
        have a := of_decide_eq_false h.1
        have b := of_decide_eq_false h.2
        rw [if_neg b, if_neg fun q => a q.1]
      · unfold lvV at h
        rw [e, if_pos hl] at h
        rw [h]
        split
        · rfl
        · rw [if_neg (by omega)]
    · rw [if_neg e]
  · rw [if_neg hl, if_neg hl]
theorem lv_put {V : Nat → Int} {k : Nat} (h : cntB (V (k * 2)) (V (k * 2 + 1)) = true) (h2 : lvV V (V (k * 2)) k ≠ -1) : lvV V (V (k * 2)) (k + 1) = V (k * 2 + 1) := by
  unfold cntB at h
  rw [Bool.and_eq_true, Bool.or_eq_true] at h
  obtain ⟨h1, h3⟩ := h
  obtain ⟨a, b⟩ := inB_yes h1
  unfold lvV at h2 ⊢
  rw [if_pos ⟨a, b⟩] at h2 ⊢
  show wtS (wtL V _ k) _ _ _ = _
  have r := wtL_rng V (V (k * 2)) k
  unfold wtS
  rw [if_pos rfl]
  rcases h3 with h3 | h3
  · have e := of_decide_eq_true h3
    rw [e, if_neg (by omega)]
    rcases r with r | r | r
    · rw [if_pos ⟨rfl, r⟩]
    · rw [if_neg (by omega), r]
    · exact absurd r h2
  · have e := of_decide_eq_true h3
    rw [e, if_pos rfl]
theorem lv_other {V : Nat → Int} {k : Nat} {l : Int} (h : l ≠ V (k * 2)) : lvV V l (k + 1) = lvV V l k := by
  unfold lvV
  split
  · show wtS (wtL V l k) (V (k * 2)) (V (k * 2 + 1)) l = wtL V l k
    unfold wtS
    rw [if_neg (fun e => h e.symm)]
  · rfl
/-- A book in its block, behind k orders. -/
def BookAt (w : World) (b : Nat) (V : Nat → Int) (k : Nat) : Prop := ∃ (D : DataW Unit) (nn : Nat), w.ownsMap Try.prog 2 (plainElem Try.prog 2) b nn D ∧ nn ≤ k ∧ Maps.size D ≤ k ∧ ∀ l, D.atKey (.int .i64 l) (.lit (.int .i64 0)) = .lit (.int .i64 (lvV V l k)) ∧ Maps.has D (.int .i64 l) = decide (lvV V l k ≠ 0)
theorem owns_below {P : Program} {k : TypeId} {H : Type} {D : DataW H} {R : Value → Option (DataW H × List MemPlace)} {w w' : World} {b n : Nat} (hown : w.ownsMap P k R b n D) (hb : Below w.heap.size w w') : w'.ownsMap P k R b n D := by
  have hl := hown.lt
  obtain ⟨es, clock, h1, r⟩ := hown
  exact ⟨es, clock, (hb.block b hl).trans h1, r⟩
theorem BookAt.below {w w' : World} {b : Nat} {V : Nat → Int} {k : Nat} (h : BookAt w b V k) (hb : Below w.heap.size w w') : BookAt w' b V k := by
  obtain ⟨D, nn, h1, h2⟩ := h
  exact ⟨D, nn, owns_below h1 hb, h2⟩
theorem BookAt.lt {w : World} {b : Nat} {V : Nat → Int} {k : Nat} (h : BookAt w b V k) : b < w.heap.size := by
  obtain ⟨D, nn, h1, _⟩ := h
  exact h1.lt
theorem BookAt.new (w : World) (V : Nat → Int) : BookAt (w.alloc (.map #[] 0)) w.heap.size V 0 :=
  ⟨.map [], 0, World.ownsMap_made _ _ _ _, Nat.le_refl _, Nat.le_refl _, fun l => by
    have e : lvV V l 0 = 0 := by unfold lvV; split <;> rfl
    rw [e]
    exact ⟨rfl, rfl⟩⟩
set_option maxHeartbeats 1000000 in
theorem counts_is (x y : Int) (w : World) : Calls Try.prog 52 #[.agg #[.int .i64 x, .int .i64 y]] w fun e w' => e = .returned (.bool (cntB x y)) ∧ w' = w.alloc (.cells #[.int .i64 x, .int .i64 y] 33) := by
  go_enter Try.func52, Try.ntmps52
  go_wp2_with fail
  refine (within_is _ _ _ _).mono ?_
  rintro e w1 ⟨rfl, rfl⟩
  cases h0 : inB 1 9 x
  · go_wp2
    go_ret
    exact ⟨ret_bool (by unfold cntB; simp [h0]), rfl⟩
  by_cases a : y = 1
  · subst a
    go_wp2
    go_ret
    exact ⟨ret_bool (by unfold cntB; simp [h0]), rfl⟩
  · have a1 : (y == 1) = false := by simpa using a
    by_cases b : y = -1
    · subst b
      go_wp2
      go_ret
      exact ⟨ret_bool (by unfold cntB; simp [h0]), rfl⟩
    · have b1 : (y == -1) = false := by simpa using b
      go_wp2
      go_ret
      exact ⟨ret_bool (by unfold cntB; simp [h0, a, b]), rfl⟩
theorem grown_beside {w w' : World} {b : Nat} (h : w.grownBy w' (some b)) : Beside b w w' := ⟨h.os, h.tape, h.output, h.size, fun k hk hn => h.block k hk (fun e => hn (by injection e))⟩
set_option maxRecDepth 20000 in
set_option maxHeartbeats 2000000 in
theorem enter_any (b : Nat) (V : Nat → Int) (k : Nat) (hk : k < 1000) (w : World) (h : BookAt w b V k) :
    Calls Try.prog 44 #[.map (some b), .agg #[.int .i64 (V (k * 2)), .int .i64 (V (k * 2 + 1))]] w fun e w' => e = .returned (.tuple #[]) ∧ BookAt w' b V (k + 1) ∧ Beside b w w' := by
  have HK : Hid (BookAt w b V k) := h
  have zb := h.lt
  clear h
  have HST : Hid (∀ l, cntB (V (k * 2)) (V (k * 2 + 1)) = false ∨ lvV V (V (k * 2)) k = -1 → lvV V l (k + 1) = lvV V l k) := fun l q => lv_stay q l
  have HPU : Hid (cntB (V (k * 2)) (V (k * 2 + 1)) = true → lvV V (V (k * 2)) k ≠ -1 → lvV V (V (k * 2)) (k + 1) = V (k * 2 + 1)) := fun q1 q2 => lv_put q1 q2
  have HOT : Hid (∀ l, l ≠ V (k * 2) → lvV V l (k + 1) = lvV V l k) := fun l q => lv_other q
  obtain ⟨x, hx⟩ : ∃ x, V (k * 2) = x := ⟨_, rfl⟩
  obtain ⟨y, hy⟩ : ∃ y, V (k * 2 + 1) = y := ⟨_, rfl⟩
  rw [hx, hy] at HST HPU ⊢
  rw [hx] at HOT
  clear hx hy
  go_enter Try.func44, Try.ntmps44
  go_wp2_with fail
  refine (counts_is x y _).mono ?_
  rintro e w3 ⟨rfl, hw3⟩
  have B3 : Hid (Below w.heap.size w w3) := by show Below _ _ _; rw [hw3]; exact (by repeat (first | with_reducible exact Below.refl _ _ | with_reducible refine Below.setCell ?_ (by first | omega | (simp; done) | (simp; omega)) _ | with_reducible refine bDrewN ?_ _ | with_reducible refine Below.drew ?_ | with_reducible refine Below.alloc ?_ (by first | omega | (simp; done) | (simp; omega)) _))
  have c0 : w3.cell? ⟨w.heap.size, 0, none⟩ = some (.int .i64 x) := by rw [hw3]; simp [go_sem]
  have c1 : w3.cell? ⟨w.heap.size, 1, none⟩ = some (.int .i64 y) := by rw [hw3]; simp [go_sem]
  replace HK : Hid (BookAt w3 b V k) := HK.out.below B3.out
  clear hw3
  cases hc : cntB x y
  · have HS : Hid (∀ l, lvV V l (k + 1) = lvV V l k) := fun l => HST.out l (Or.inl hc)
    clear HST HPU HOT hc
    go_wp2
    go_end0
    obtain ⟨D, nn, d1, d2, d3, d4⟩ := HK.out
    exact ⟨rfl, ⟨D, nn, d1, by omega, by omega, fun l => by rw [HS.out l]; exact d4 l⟩, Beside.of B3.out⟩
  · obtain ⟨D, nn, d1, d2, d3, d4⟩ := HK.out
    have hx : 1 ≤ x ∧ x ≤ 9 ∧ (y = 1 ∨ y = -1) := by
      unfold cntB at hc
      rw [Bool.and_eq_true, Bool.or_eq_true] at hc
      obtain ⟨a, b'⟩ := inB_yes hc.1
      refine ⟨a, b', ?_⟩
      rcases hc.2 with q | q
      · exact Or.inl (of_decide_eq_true q)
      · exact Or.inr (of_decide_eq_true q)
    obtain ⟨x1, x2, y1⟩ := hx
    have wx : (Lit.int .i64 x).wf = true := WalkArith.wf_i64 (by omega)
    have wy : (Lit.int .i64 y).wf = true := WalkArith.wf_i64 (by omega)
    have hkey : keyOf Try.prog 2 (.int .i64 x) = some (.int .i64 x) := keyOf_int_mk Try.underlying2 wx
    obtain ⟨c, hrun, hat, hwc⟩ := d1.lookup_int (t := 61) book_keyed Try.underlying61 Try.underlying2 (book_zero _) hkey
    have hcv : lvV V x k = c := by
      have := (d4 x).1
      rw [hat] at this
      injection this with this
      injection this with _ this
      exact this.symm
    by_cases e : c = -1
    · have HS : Hid (∀ l, lvV V l (k + 1) = lvV V l k) := fun l => HST.out l (Or.inr (by rw [hcv, e]))
      have D4 : Hid (∀ l, D.atKey (.int .i64 l) (.lit (.int .i64 0)) = .lit (.int .i64 (lvV V l k)) ∧ Maps.has D (.int .i64 l) = decide (lvV V l k ≠ 0)) := d4
      have D1 : Hid (w3.ownsMap Try.prog 2 (plainElem Try.prog 2) b nn D) := d1
      subst e
      clear HST HPU HOT hc d4 d1 hat hcv HK hkey y1
      go_wp2
      go_end0
      exact ⟨rfl, ⟨D, nn, D1.out, by omega, by omega, fun l => by rw [HS.out l]; exact D4.out l⟩, Beside.of B3.out⟩
    · have e1 : (c != -1) = true := by simpa using e
      have HP : Hid (lvV V x (k + 1) = y) := HPU.out hc (by rw [hcv]; exact e)
      have HD : Hid (∀ l, D.atKey (.int .i64 l) (.lit (.int .i64 0)) = .lit (.int .i64 (lvV V l k)) ∧ Maps.has D (.int .i64 l) = decide (lvV V l k ≠ 0)) := d4
      obtain ⟨w4, hrun4, hown4, hgrow4⟩ := d1.update (t := 61) book_keyed Try.underlying61 (by unfold maxLen; omega) hkey (plainElem_int (H := Unit) Try.underlying2 wy)
      have HT : Hid (Tidy D) := d1.tidy book_keyed
      have HO4 : Hid (w4.ownsMap Try.prog 2 (plainElem Try.prog 2) b (nn + 1) (D.put (.int .i64 x) (.lit (.int .i64 y)))) := hown4
      have HG4 : Hid (Beside b w3 w4) := grown_beside hgrow4
      have HY : Hid (y ≠ 0) := by show _ ≠ _; omega
      clear HST HPU hc hat hcv HK hkey d1 d4 hown4 hgrow4 wx wy e y1
      go_wp2
      go_end0
      refine ⟨rfl, ⟨_, nn + 1, HO4.out, by omega, ?_, fun l => ?_⟩, (Beside.of B3.out).trans HG4.out⟩
      · rw [size_put HT.out]
        split <;> omega
      · by_cases el : l = x
        · subst el
          rw [HP.out, atKey_put_same HT.out.isMap (by trivial), has_put_same HT.out.isMap (by trivial)]
          exact ⟨rfl, by simp [HY.out]⟩
        · rw [HOT.out l el, atKey_put_other (by simpa using el), has_put_other (by simpa using el)]
          exact HD.out l
end Go.Proofs.Ytafifjodpgmiiaa
