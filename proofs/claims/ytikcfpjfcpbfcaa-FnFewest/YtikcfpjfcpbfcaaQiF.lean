/-
What is proved: tags in numbers, and as the specification counts them.
-/
import Derived.Test.YtikcfpjfcpbfcaaBoS
import Derived.Test.YtikcfpjfcpbfcaaQiD
import Derived.Test.YtikcfpjfcpbfcaaBkT
import Derived.Test.YtikcfpjfcpbfcaaI64R2
import Derived.Test.YtikcfpjfcpbfcaaQiA
import Derived.Test.YtikcfpjfcpbfcaaQiH
import Derived.Test.YtikcfpjfcpbfcaaCuS
import Derived.Test.YtikcfpjfcpbfcaaRis
import Derived.Deep.AppendLies
import Derived.Laws.OwnMore
namespace Go.Proofs.Ytikcfpjfcpbfcaa
set_option maxRecDepth 40000
open Go.ChangeShapes Go.WideShapes Go.ChangeAt Go.RowKit
set_option linter.unusedVariables false
set_option linter.unusedSimpArgs false

def cntP (K : Nat → Nat) (V : Nat → Nat → Int) : Nat → Nat → Int
  | 0, _ => 0
  | j + 1, v => cntP K V j v + (if hasB (V j) (K j) (v : Int) = true then 1 else 0)
theorem cntP_in (K : Nat → Nat) (V : Nat → Nat → Int) (j v : Nat) : 0 ≤ cntP K V j v ∧ cntP K V j v ≤ j := by
  induction j with
  | zero => exact ⟨Int.le_refl _, Int.le_refl _⟩
  | succ j ih => unfold cntP; split <;> omega
def tgI (K : Nat → Nat) (V : Nat → Nat → Int) (j r v : Nat) : Int := cntP K V j v + (if hasB (V j) r (v : Int) = true then 1 else 0)
theorem has_succ {U : Nat → Int} {r : Nat} {x : Int} (h : U r ≠ x) : hasB U (r + 1) x = hasB U r x := by
  unfold hasB
  have : (∃ j, j < r + 1 ∧ U j = x) ↔ ∃ j, j < r ∧ U j = x := ⟨fun ⟨j, h1, h2⟩ => ⟨j, by
    by_cases e : j = r
    · subst e; exact absurd h2 h
    · omega, h2⟩, fun ⟨j, h1, h2⟩ => ⟨j, by omega, h2⟩⟩
  simp only [this]
theorem tg_step {K : Nat → Nat} {V : Nat → Nat → Int} {j r x : Nat} {l : Nat} (hr : risB (V j) l = true) (hl : r < l) (hx : V j r = (x : Int)) (v : Nat) : tgI K V j (r + 1) v = (if v = x then tgI K V j r x + 1 else tgI K V j r v) := by
  unfold tgI
  by_cases e : v = x
  · subst e
    rw [if_pos rfl]
    have h1 : hasB (V j) (r + 1) (v : Int) = true := decide_eq_true ⟨r, by omega, hx⟩
    have h2 : hasB (V j) r (v : Int) = false := by rw [← hx]; exact ris_has hr hl
    rw [h1, h2]; simp
  · rw [if_neg e, has_succ (by rw [hx]; omega)]
theorem tg_end (K : Nat → Nat) (V : Nat → Nat → Int) (j v : Nat) : tgI K V j (K j) v = cntP K V (j + 1) v := rfl
theorem tg_start (K : Nat → Nat) (V : Nat → Nat → Int) (j v : Nat) : tgI K V j 0 v = cntP K V j v := by
  unfold tgI
  have : hasB (V j) 0 (v : Int) = false := decide_eq_false fun ⟨i, h, _⟩ => by omega
  rw [this]; simp
set_option maxRecDepth 20000 in
set_option maxHeartbeats 2000000 in
theorem l22Has_any (s : Option Addr) (k e : Nat) (U : Nat → Int) (x : Int) (w : World) (hk : (k : Int) ≤ 1048576) (HU : Hid (RowI w s k U)) :
    Calls Try.prog 97 #[.slice s k e, .int .i64 x] w fun e w' => e = .returned (.bool (hasB U k x)) ∧ w' = w := by
  go_enter Try.func97, Try.ntmps97
  go_wp2_with fail
  go_loopw [5] (fun i wr => ∃ j : Nat, j ≤ k ∧ i = .int .i64 j ∧ Hid (∀ r, r < j → U r ≠ x) ∧ wr = w) (fun i _ => k - (intOf i).toNat)
  case atStart => exact ⟨0, Nat.zero_le _, rfl, fun r hr => by omega, rfl⟩
  case round =>
    obtain ⟨j, hj, rfl, HP, rfl⟩ := hrel
    by_cases h1 : j < k
    · obtain ⟨g, o, rfl, hg, c0⟩ := HU.out j h1
      have j1 : (j : Int) < (k : Int) := by omega
      by_cases e0 : U j = x
      · have HO : Hid (hasB U k x = true) := decide_eq_true ⟨j, h1, e0⟩
        obtain ⟨z, hz⟩ : ∃ z, U j = z := ⟨_, rfl⟩
        have e1 : (z == x) = true := by rw [← hz]; simpa using e0
        rw [hz] at c0
        clear e0 hz
        go_wp2
        go_ret
        exact ⟨ret_bool HO.out.symm, rfl⟩
      · have HN : Hid (∀ r, r < j + 1 → U r ≠ x) := ball_succ HP.out e0
        obtain ⟨z, hz⟩ : ∃ z, U j = z := ⟨_, rfl⟩
        have e1 : (z == x) = false := by rw [← hz]; simpa using e0
        rw [hz] at c0
        clear e0 hz
        go_wp2
        go_roundw
        case rel => exact ⟨j + 1, by omega, by go_num, HN.out, by first | rfl | trivial⟩
        case measure => first | (simp [intOf]; done) | (simp [intOf]; omega)
    · obtain rfl : j = k := by omega
      have HO : Hid (hasB U j x = false) := decide_eq_false fun ⟨i, h, e⟩ => HP.out i h e
      go_wp2
      go_ret
      exact ⟨ret_bool HO.out.symm, rfl⟩
set_option maxRecDepth 20000 in
set_option maxHeartbeats 2000000 in
theorem l22Tags_any (bs : Option Addr) (nb bc : Nat) (X Y : Nat → Int) (K : Nat → Nat) (V : Nat → Nat → Int) (v : Nat) (w : World) (hb : (nb : Int) ≤ 20) (hK : Hid (∀ i, i < nb → (K i : Int) ≤ 1048576)) (HB : Hid (RowPer w bs nb X Y K V)) :
    Calls Try.prog 62 #[.agg #[.slice bs nb bc], .int .i64 (v : Int)] w fun e w' => e = .returned (.int .i64 (cntP K V nb v)) ∧ Below w.heap.size w w' := by
  go_enter Try.func62, Try.ntmps62
  go_wp2_with fail
  go_loopw [5, 6] (fun q i wr => ∃ k : Nat, k ≤ nb ∧ i = .int .i64 k ∧ q = .int .i64 (cntP K V k v) ∧ wr = w.alloc (.cells #[.slice bs nb bc] 36)) (fun _ i _ => nb - (intOf i).toNat)
  case atStart => exact ⟨0, Nat.zero_le _, rfl, rfl, rfl⟩
  case round =>
    obtain ⟨k, hk, rfl, rfl, rfl⟩ := hrel
    have cb := cntP_in K V k v
    by_cases h1 : k < nb
    · obtain ⟨g, o, a, e, rfl, hg, c0, c1, c2, hr⟩ := HB.out k h1
      have d2 : (w.alloc (.cells #[.slice (some ⟨g, o, none⟩) nb bc] 36)).cell? ⟨g, o + k * 3 + 2, none⟩ = some (.slice a (K k) e) := ((below0 w _).cell (p := ⟨g, o + k * 3 + 2, none⟩) hg).trans c2
      have zg : g < (w.alloc (.cells #[.slice (some ⟨g, o, none⟩) nb bc] 36)).heap.size := by simp; omega
      have k1 : (k : Int) < (nb : Int) := by omega
      have kk := hK.out k h1
      have HI : Hid (RowI w a (K k) (V k)) := hr
      have HS : Hid (cntP K V (k + 1) v = cntP K V k v + (if hasB (V k) (K k) (v : Int) = true then 1 else 0)) := rfl
      obtain ⟨q, hq⟩ : ∃ q, cntP K V k v = q := ⟨_, rfl⟩
      obtain ⟨l, hl⟩ : ∃ l, K k = l := ⟨_, rfl⟩
      rw [hq] at HS cb ⊢
      rw [hl] at d2 HI kk HS
      clear c0 c1 c2 hr hq hl
      go_wp2_with fail
      refine (l22Has_any a l e (V k) (v : Int) _ kk (HI.out.below (by repeat (first | with_reducible exact Below.refl _ _ | with_reducible refine Below.setCell ?_ (by first | omega | (simp; done) | (simp; omega)) _ | with_reducible refine bDrewN ?_ _ | with_reducible refine Below.drew ?_ | with_reducible refine Below.alloc ?_ (by first | omega | (simp; done) | (simp; omega)) _)))).mono ?_
      rintro e' w1 ⟨rfl, rfl⟩
      cases e0 : hasB (V k) l (v : Int)
      · have HN : Hid (cntP K V (k + 1) v = q) := by show _ = _; rw [HS.out, e0]; simp
        go_wp2
        go_roundw
        case rel => exact ⟨k + 1, by omega, by go_num, by rw [HN.out], by first | rfl | trivial⟩
        case measure => first | (simp [intOf]; done) | (simp [intOf]; omega)
      · have HN : Hid (cntP K V (k + 1) v = q + 1) := by show _ = _; rw [HS.out, e0]; simp
        go_wp2
        go_roundw
        case rel => exact ⟨k + 1, by omega, by go_num, by rw [HN.out], by first | rfl | trivial⟩
        case measure => first | (simp [intOf]; done) | (simp [intOf]; omega)
    · obtain rfl : k = nb := by omega
      go_wp2
      go_ret
      exact ⟨rfl, (by repeat (first | with_reducible exact Below.refl _ _ | with_reducible refine Below.setCell ?_ (by first | omega | (simp; done) | (simp; omega)) _ | with_reducible refine bDrewN ?_ _ | with_reducible refine Below.drew ?_ | with_reducible refine Below.alloc ?_ (by first | omega | (simp; done) | (simp; omega)) _))⟩

open Go.ChangeShapes Go.WideShapes Go.ChangeAt Go.RowKit
set_option linter.unusedVariables false
set_option linter.unusedSimpArgs false

theorem bok_sk {p : Int} {n : Nat} {D : Nat → Int × Int} {m : Nat} {S : Nat → Int} {nb q : Nat} {X Y : Nat → Int} {K : Nat → Nat} {V : Nat → Nat → Int} (h : bokB p n D m S nb X Y K V = true) : bokB p n D m S (nb - 1) (fun i => X (sk q i)) (fun i => Y (sk q i)) (fun i => K (sk q i)) (fun i => V (sk q i)) = true := by
  obtain ⟨h1, h2, h3⟩ := bok_yes h
  have hr := bok_rises h
  unfold bokB
  simp only [Bool.and_eq_true, decide_eq_true_iff]
  refine ⟨h1, by omega, fun i hi => ?_⟩
  have hs : sk q i < nb := by unfold sk; split <;> omega
  obtain ⟨g1, g2, g3, g4⟩ := pm_yes (h3 (sk q i) hs)
  unfold pmB
  simp only [Bool.and_eq_true]
  refine ⟨g1, g2, decide_eq_true ?_, decide_eq_true fun j hj => ?_⟩
  · rcases Nat.eq_zero_or_pos i with z | z
    · exact .inl z
    · exact .inr (hr _ _ (by unfold sk; split <;> split <;> omega) hs)
  · exact of_decide_eq_true g4 (sk q j) (by unfold sk; split <;> split <;> omega)
theorem bok_in {p : Int} {n : Nat} {D : Nat → Int × Int} {m : Nat} {S : Nat → Int} {nb : Nat} {X Y : Nat → Int} {K : Nat → Nat} {V : Nat → Nat → Int} (h : bokB p n D m S nb X Y K V = true) : n ≤ 40 ∧ nb ≤ 20 ∧ ∀ i, i < nb → (K i : Int) ≤ 40 ∧ risB (V i) (K i) = true ∧ ∀ j, j < K i → 0 ≤ V i j ∧ V i j < (n : Int) := by
  obtain ⟨h1, h2, h3⟩ := bok_yes h
  obtain ⟨-, n40, -⟩ := net_yes h1
  refine ⟨n40, h2, fun i hi => ?_⟩
  obtain ⟨-, -, r1, r2⟩ := fm_yes (pm_yes (h3 i hi)).1
  have := ris_len r1 r2 (by omega)
  exact ⟨by omega, r1, fun j hj => by have := r2 j hj; omega⟩
def GbPost (w : World) (nr : Nat) (X Y : Nat → Int) (K : Nat → Nat) (V : Nat → Nat → Int) (L : List Int) (cd : Int) (e : Ending) (w' : World) : Prop := ∃ (s : Option Addr) (c : Nat) (t : Option Addr) (d : Nat) (S T : Nat → Prop), e = .returned (.tuple #[.agg #[.slice s nr c], .slice t L.length d, .int .i64 cd]) ∧ (∀ k, S k → w.heap.size ≤ k ∧ k < w'.heap.size) ∧ BookR S w' s nr X Y K V ∧ (∀ k, T k → w.heap.size ≤ k ∧ k < w'.heap.size) ∧ I64R T w' t L.length (nthI L) ∧ (∀ k, S k → ¬ T k) ∧ Below w.heap.size w w'
/-- What is asked of an answer. -/
def GbAns (p : Int) (n : Nat) (D : Nat → Int × Int) (m : Nat) (S : Nat → Int) (nb : Nat) (X Y : Nat → Int) (K : Nat → Nat) (V : Nat → Nat → Int) (q : Nat) (w : World) (e : Ending) (w' : World) : Prop := if bokB p n D m S nb X Y K V = true then (if q < nb then GbPost w (nb - 1) (fun i => X (sk q i)) (fun i => Y (sk q i)) (fun i => K (sk q i)) (fun i => V (sk q i)) (freL (V q) (cntP (fun i => K (sk q i)) (fun i => V (sk q i)) (nb - 1)) (K q)) 0 e w' else GbPost w nb X Y K V [] 7 e w') else GbPost w 0 X Y K V [] 1 e w'
theorem GbAns.bad {p : Int} {n : Nat} {D : Nat → Int × Int} {m : Nat} {S : Nat → Int} {nb : Nat} {X Y : Nat → Int} {K : Nat → Nat} {V : Nat → Nat → Int} {q : Nat} {w : World} {e : Ending} {w' : World} (h : bokB p n D m S nb X Y K V = false) (g : GbPost w 0 X Y K V [] 1 e w') : GbAns p n D m S nb X Y K V q w e w' := by unfold GbAns; rw [h]; exact g
theorem GbAns.none {p : Int} {n : Nat} {D : Nat → Int × Int} {m : Nat} {S : Nat → Int} {nb : Nat} {X Y : Nat → Int} {K : Nat → Nat} {V : Nat → Nat → Int} {q : Nat} {w : World} {e : Ending} {w' : World} (h : bokB p n D m S nb X Y K V = true) (hq : ¬ q < nb) (g : GbPost w nb X Y K V [] 7 e w') : GbAns p n D m S nb X Y K V q w e w' := by unfold GbAns; rw [if_pos h, if_neg hq]; exact g
theorem GbAns.hit {p : Int} {n : Nat} {D : Nat → Int × Int} {m : Nat} {S : Nat → Int} {nb : Nat} {X Y : Nat → Int} {K : Nat → Nat} {V : Nat → Nat → Int} {q mo fl : Nat} {L : List Int} {w : World} {e : Ending} {w' : World} (h : bokB p n D m S nb X Y K V = true) (hq : q < nb) (hm : nb - 1 = mo) (hk : K q = fl) (hL : freL (V q) (cntP (fun i => K (sk q i)) (fun i => V (sk q i)) mo) fl = L) (g : GbPost w mo (fun i => X (sk q i)) (fun i => Y (sk q i)) (fun i => K (sk q i)) (fun i => V (sk q i)) L 0 e w') : GbAns p n D m S nb X Y K V q w e w' := by unfold GbAns; rw [if_pos h, if_pos hq, hm, hk, hL]; exact g
theorem no_book (w : World) (s : Option Addr) (X Y : Nat → Int) (K : Nat → Nat) (V : Nat → Nat → Int) : BookR (fun _ => False) w s 0 X Y K V := ⟨fun _ => 0, fun i hi => absurd hi (Nat.not_lt_zero _), fun i i' hi => absurd hi (Nat.not_lt_zero _)⟩
theorem no_ints (w : World) (s : Option Addr) (V : Nat → Int) : I64R (fun _ => False) w s 0 V := ⟨fun i hi => absurd hi (Nat.not_lt_zero _), fun hi => absurd hi (Nat.not_lt_zero _)⟩

open Go.ChangeShapes Go.WideShapes Go.ChangeAt Go.RowKit
set_option linter.unusedVariables false
set_option linter.unusedSimpArgs false

/-- The place of an Id that is not there. -/
def InsAt (nb : Nat) (X : Nat → Int) (id : Int) (q : Nat) : Prop := q ≤ nb ∧ (∀ j, j < q → X j < id) ∧ ∀ j, q ≤ j → j < nb → id < X j
theorem ins_ex (nb : Nat) (X : Nat → Int) (id : Int) (hr : ∀ i j, i < j → j < nb → X i < X j) (hn : hasB X nb id = false) : ∃ q, InsAt nb X id q := by
  have hne : ∀ j, j < nb → X j ≠ id := fun j hj e => by
    have := of_decide_eq_false hn
    exact this ⟨j, hj, e⟩
  have key : ∀ k, k ≤ nb → ∃ q, q ≤ k ∧ (∀ j, j < q → X j < id) ∧ ∀ j, q ≤ j → j < k → id < X j := by
    intro k
    induction k with
    | zero => intro _; exact ⟨0, Nat.le_refl _, fun j h => absurd h (Nat.not_lt_zero _), fun j _ h => absurd h (Nat.not_lt_zero _)⟩
    | succ k ih =>
      intro hk
      obtain ⟨q, h1, h2, h3⟩ := ih (by omega)
      by_cases z : X k < id
      · have e : q = k := by
          rcases Nat.lt_or_ge q k with y | y
          · have a := h3 q (Nat.le_refl _) y
            have b := hr q k y (by omega)
            omega
          · omega
        subst e
        refine ⟨q + 1, Nat.le_refl _, fun j hj => ?_, fun j a b => by omega⟩
        by_cases e : j = q
        · subst e; exact z
        · exact h2 j (by omega)
      · refine ⟨q, by omega, h2, fun j a b => ?_⟩
        by_cases e : j = k
        · subst e
          have := hne j (by omega)
          omega
        · exact h3 j a (by omega)
  obtain ⟨q, h1, h2, h3⟩ := key nb (Nat.le_refl _)
  exact ⟨q, h1, h2, h3⟩
theorem ins_one {nb : Nat} {X : Nat → Int} {id : Int} {q k : Nat} (h : InsAt nb X id q) (hk : k ≤ nb) (h1 : ∀ j, j < k → X j < id) (h2 : ∀ j, k ≤ j → j < nb → id ≤ X j) : k = q := by
  obtain ⟨a, b, c⟩ := h
  rcases Nat.lt_trichotomy k q with z | z | z
  · have := b k z; have := h2 k (Nat.le_refl _) (by omega); omega
  · exact z
  · have := h1 q z; have := c q (Nat.le_refl _) (by omega); omega
theorem suK_inF_lo (K : Nat → Nat) (q k : Nat) : ∀ m, m ≤ q → suK (inF q k K) m = suK K m := by
  intro m
  induction m with
  | zero => intro _; rfl
  | succ m ih => intro h; unfold suK; rw [ih (by omega), inF_lt (by omega)]
theorem suK_inF (K : Nat → Nat) (q k : Nat) : ∀ m, q ≤ m → suK (inF q k K) (m + 1) = suK K m + k := by
  intro m
  induction m with
  | zero => intro h; have e : q = 0 := by omega
            subst e; simp [suK, inF]
  | succ m ih =>
    intro h
    by_cases e : q = m + 1
    · subst e
      show suK (inF (m + 1) k K) (m + 1) + inF (m + 1) k K (m + 1) = _
      rw [suK_inF_lo K (m + 1) k (m + 1) (Nat.le_refl _), inF_eq]
    · have := ih (by omega)
      have e2 : inF q k K (m + 1) = K m := by rw [inF_gt (by omega)]; rfl
      have e3 : suK (inF q k K) (m + 1 + 1) = suK (inF q k K) (m + 1) + inF q k K (m + 1) := rfl
      have e4 : suK K (m + 1) = suK K m + K m := rfl
      omega
def GrPost (w : World) (nr : Nat) (X Y : Nat → Int) (K : Nat → Nat) (V : Nat → Nat → Int) (cd : Int) (e : Ending) (w' : World) : Prop := ∃ (s : Option Addr) (c : Nat) (S : Nat → Prop), e = .returned (.tuple #[.agg #[.slice s nr c], .int .i64 cd]) ∧ (∀ k, S k → w.heap.size ≤ k ∧ k < w'.heap.size) ∧ BookR S w' s nr X Y K V ∧ Below w.heap.size w w'
/-- What is asked of an answer. -/
def GrAns (p : Int) (n : Nat) (D : Nat → Int × Int) (m : Nat) (S : Nat → Int) (nb : Nat) (X Y : Nat → Int) (K : Nat → Nat) (V : Nat → Nat → Int) (id pl : Int) (kp : Nat) (vp : Nat → Int) (q : Nat) (w : World) (e : Ending) (w' : World) : Prop := if bokB p n D m S nb X Y K V = true then (if refV p n D m S nb X Y id pl kp vp = 0 then GrPost w (nb + 1) (inF q id X) (inF q pl Y) (inF q kp K) (inF q vp V) 0 e w' else GrPost w nb X Y K V (refV p n D m S nb X Y id pl kp vp) e w') else GrPost w 0 X Y K V 1 e w'
theorem GrAns.bad {p : Int} {n : Nat} {D : Nat → Int × Int} {m : Nat} {S : Nat → Int} {nb : Nat} {X Y : Nat → Int} {K : Nat → Nat} {V : Nat → Nat → Int} {id pl : Int} {kp : Nat} {vp : Nat → Int} {q : Nat} {w : World} {e : Ending} {w' : World} (h : bokB p n D m S nb X Y K V = false) (g : GrPost w 0 X Y K V 1 e w') : GrAns p n D m S nb X Y K V id pl kp vp q w e w' := by unfold GrAns; rw [h]; exact g
theorem GrAns.no {p : Int} {n : Nat} {D : Nat → Int × Int} {m : Nat} {S : Nat → Int} {nb : Nat} {X Y : Nat → Int} {K : Nat → Nat} {V : Nat → Nat → Int} {id pl : Int} {kp : Nat} {vp : Nat → Int} {q : Nat} {w : World} {e : Ending} {w' : World} {cd : Int} (h : bokB p n D m S nb X Y K V = true) (hr : refV p n D m S nb X Y id pl kp vp = cd) (hc : cd ≠ 0) (g : GrPost w nb X Y K V cd e w') : GrAns p n D m S nb X Y K V id pl kp vp q w e w' := by unfold GrAns; rw [if_pos h, hr, if_neg hc]; exact g
theorem GrAns.ok {p : Int} {n : Nat} {D : Nat → Int × Int} {m : Nat} {S : Nat → Int} {nb : Nat} {X Y : Nat → Int} {K : Nat → Nat} {V : Nat → Nat → Int} {id pl : Int} {kp : Nat} {vp : Nat → Int} {q : Nat} {w : World} {e : Ending} {w' : World} (h : bokB p n D m S nb X Y K V = true) (hr : refV p n D m S nb X Y id pl kp vp = 0) (g : GrPost w (nb + 1) (inF q id X) (inF q pl Y) (inF q kp K) (inF q vp V) 0 e w') : GrAns p n D m S nb X Y K V id pl kp vp q w e w' := by unfold GrAns; rw [if_pos h, if_pos hr]; exact g
theorem ins_per {S : Nat → Prop} {b nb q g gk kp c : Nat} {X Y : Nat → Int} {K : Nat → Nat} {V : Nat → Nat → Int} {AA : Nat → Option Addr} {CC : Nat → Nat} {id pl : Int} {a : Option Addr} {vp : Nat → Int} {W W' : World} (hq : q ≤ nb) (HC : PcK b W nb nb X Y K V) (hp : ∀ i, i < nb → W.cell? ⟨b, i * 3, none⟩ = some (.int .i64 (X i)) ∧ W.cell? ⟨b, i * 3 + 1, none⟩ = some (.int .i64 (Y i)) ∧ W.cell? ⟨b, i * 3 + 2, none⟩ = some (.slice (AA i) (K i) (CC i)))
    (hL : 0 < kp → a = some ⟨gk, 0, none⟩ ∧ gk < W.heap.size ∧ S gk ∧ ∀ j, j < kp → W.cell? ⟨gk, j, none⟩ = some (.int .i64 (vp j)) ∧ W.frozen? ⟨gk, j, none⟩ = false)
    (hin : ∀ (i : Nat) (a : Addr) (k' c : Nat), i < nb → W.cell? ⟨b, i * 3 + 2, none⟩ = some (.slice (some a) k' c) → 0 < k' → S a.block ∧ (0 < kp → a.block ≠ gk)) (hSg : S g)
    (HI : InsP W nb q X Y K AA CC id pl a kp c g W') : PerR S W' (some ⟨g, 0, none⟩) (nb + 1) (inF q id X) (inF q pl Y) (inF q kp K) (inF q vp V) := by
  obtain ⟨h1, h2, ⟨G, h3, h4⟩, h5⟩ := HC
  obtain ⟨i1, i2, i3, i4, i5⟩ := HI
  have old : ∀ i, i < nb → 0 < K i → AA i = some ⟨G i, 0, none⟩ ∧ G i < W.heap.size ∧ S (G i) ∧ (0 < kp → G i ≠ gk) ∧ ∀ j, j < K i → W.cell? ⟨G i, j, none⟩ = some (.int .i64 (V i j)) ∧ W.frozen? ⟨G i, j, none⟩ = false := fun i hi hk => by
    obtain ⟨a0, c0, _, _, d2, r⟩ := h3 i hi
    obtain ⟨r1, r2, r3, r4⟩ := r hk
    have d := (hp i hi).2.2
    rw [d2] at d
    simp only [Option.some.injEq, Value.slice.injEq] at d
    rw [r1] at d2
    obtain ⟨s1, s2⟩ := hin i _ _ _ hi d2 hk
    exact ⟨by rw [← d.1]; exact r1, r3, s1, s2, r4⟩
  refine ⟨inF q gk G, fun i hi => ?_, fun i i' hi hi' q1 q2 e => ?_⟩
  · obtain ⟨c0, c1, c2⟩ := i4 i hi
    refine ⟨g, _, _, rfl, hSg, i2, i3, c0, c1, c2, fun hk => ?_⟩
    by_cases z : i < q
    · rw [inF_lt z] at hk ⊢
      rw [inF_lt z, inF_lt z, inF_lt z]
      obtain ⟨r1, r2, r3, r4, r5⟩ := old i (by omega) hk
      exact ⟨r1, by omega, r3, Nat.lt_of_lt_of_le r2 i5.size, fun j hj => ⟨(i5.cell (p := ⟨G i, j, none⟩) r2).trans (r5 j hj).1, (i5.frozen (p := ⟨G i, j, none⟩) r2).trans (r5 j hj).2⟩⟩
    · by_cases z2 : i = q
      · subst z2
        rw [inF_eq] at hk ⊢
        rw [inF_eq, inF_eq, inF_eq]
        obtain ⟨r1, r2, r3, r5⟩ := hL hk
        exact ⟨r1, by omega, r3, Nat.lt_of_lt_of_le r2 i5.size, fun j hj => ⟨(i5.cell (p := ⟨gk, j, none⟩) r2).trans (r5 j hj).1, (i5.frozen (p := ⟨gk, j, none⟩) r2).trans (r5 j hj).2⟩⟩
      · have z3 : q < i := by omega
        rw [inF_gt z3] at hk ⊢
        rw [inF_gt z3, inF_gt z3, inF_gt z3]
        obtain ⟨r1, r2, r3, r4, r5⟩ := old (i - 1) (by omega) hk
        exact ⟨r1, by omega, r3, Nat.lt_of_lt_of_le r2 i5.size, fun j hj => ⟨(i5.cell (p := ⟨G (i - 1), j, none⟩) r2).trans (r5 j hj).1, (i5.frozen (p := ⟨G (i - 1), j, none⟩) r2).trans (r5 j hj).2⟩⟩
  · have pos : ∀ i, i < nb + 1 → i ≠ q → 0 < inF q kp K i → ∃ i0, i0 < nb ∧ 0 < K i0 ∧ inF q gk G i = G i0 ∧ i0 = (if i < q then i else i - 1) := fun i hi hne hk => by
      by_cases z : i < q
      · rw [inF_lt z] at hk
        exact ⟨i, by omega, hk, inF_lt z, by rw [if_pos z]⟩
      · have z3 : q < i := by omega
        rw [inF_gt z3] at hk
        exact ⟨i - 1, by omega, hk, inF_gt z3, by rw [if_neg z]⟩
    by_cases e1 : i = q
    · by_cases e2 : i' = q
      · omega
      · subst e1
        obtain ⟨i0, a1, a2, a3, _⟩ := pos i' hi' e2 q2
        rw [inF_eq] at q1 e
        rw [a3] at e
        exact absurd e.symm ((old i0 a1 a2).2.2.2.1 q1)
    · by_cases e2 : i' = q
      · subst e2
        obtain ⟨i0, a1, a2, a3, _⟩ := pos i hi e1 q1
        rw [inF_eq] at q2 e
        rw [a3] at e
        exact absurd e ((old i0 a1 a2).2.2.2.1 q2)
      · obtain ⟨i0, a1, a2, a3, a4⟩ := pos i hi e1 q1
        obtain ⟨j0, b1, b2, b3, b4⟩ := pos i' hi' e2 q2
        rw [a3, b3] at e
        have := h4 i0 j0 a1 b1 a2 b2 e
        rw [a4, b4] at this
        split at this <;> split at this <;> omega

open Go.ChangeShapes Go.WideShapes Go.ChangeAt Go.RowKit
set_option linter.unusedVariables false
set_option linter.unusedSimpArgs false

theorem rsl_low {d : Int} : ∀ (L : List Int) (f g : Int), g ≤ f → RisL d L f → RisL d L g
  | [], _, _, _, _ => trivial
  | x :: r, f, g, h, ⟨h1, h2, h3⟩ => ⟨by omega, h2, h3⟩
theorem rsl_cut {d : Int} : ∀ (L : List Int) (f : Int) (i : Nat), RisL d L f → RisL d (L.take i ++ L.drop (i + 1)) f
  | [], f, i, _ => by simp [RisL]
  | x :: r, f, 0, ⟨h1, h2, h3⟩ => by simpa using rsl_low r (x + 1) f (by omega) h3
  | x :: r, f, i + 1, ⟨h1, h2, h3⟩ => by
    have := rsl_cut r (x + 1) i h3
    simpa using ⟨h1, h2, this⟩
theorem cut_len (L : List Int) (i : Nat) (hi : i < L.length) : (L.take i ++ L.drop (i + 1)).length = L.length - 1 := by
  rw [List.length_append, List.length_take, List.length_drop]; omega
theorem few_less {Q : List Int → Bool} {d : Nat} {L : List Int} (h : FwG Q d L) (i : Nat) (hi : i < L.length) : Q (L.take i ++ L.drop (i + 1)) = false := by
  cases e : Q (L.take i ++ L.drop (i + 1))
  · rfl
  · have hc := h.2.2 _ (rsl_cut L 0 i h.1) e
    unfold caM at hc
    rw [if_neg (by rw [cut_len L i hi]; omega)] at hc
    have := of_decide_eq_false hc
    rw [cut_len L i hi] at this
    omega
theorem rsl_in {d : Int} : ∀ (L : List Int) (f : Int), RisL d L f → (∀ j, j < L.length → f ≤ nthI L j ∧ nthI L j < d) ∧ ∀ j, j + 1 < L.length → nthI L j < nthI L (j + 1)
  | [], _, _ => ⟨fun j h => absurd h (Nat.not_lt_zero _), fun j h => absurd h (Nat.not_lt_zero _)⟩
  | x :: r, f, ⟨h1, h2, h3⟩ => by
    obtain ⟨a, b⟩ := rsl_in r (x + 1) h3
    refine ⟨fun j hj => ?_, fun j hj => ?_⟩
    · cases j with
      | zero => exact ⟨h1, h2⟩
      | succ j => have := a j (by simpa using hj); exact ⟨by show f ≤ nthI r j; omega, this.2⟩
    · cases j with
      | zero =>
        have := a 0 (by simpa using hj)
        show x < nthI r 0
        omega
      | succ j => exact b j (by simpa using hj)
theorem cutB_yes {p : Int} {n : Nat} {D : Nat → Int × Int} {m : Nat} {S : Nat → Int} {k : Nat} {Q : Nat → Int} {x : Int} (h : cutB p n D m S k Q x = true) : netB p n D m S = true ∧ inB 0 (p - 1) x = true := by
  unfold cutB at h
  simp only [Bool.and_eq_true] at h
  exact ⟨h.1, h.2.1⟩
theorem few_grant {p : Int} {n : Nat} {D : Nat → Int × Int} {m : Nat} {S : Nat → Int} {x : Int} {L : List Int} (h : FwG (cutL p n D m S x) n L) (X Y : Nat → Int) (K : Nat → Nat) (V : Nat → Nat → Int) : bokB p n D m S 0 X Y K V = true ∧ refV p n D m S 0 X Y 1 x L.length (nthI L) = 0 ∧ InsAt 0 X 1 0 := by
  have hc : cutB p n D m S L.length (nthI L) x = true := h.2.1
  obtain ⟨h1, h2⟩ := cutB_yes hc
  obtain ⟨r1, r2⟩ := rsl_in L 0 h.1
  have hr : risB (nthI L) L.length = true := decide_eq_true fun j _ hj => r2 j hj
  have ha : allInB 0 ((n : Int) - 1) (nthI L) L.length = true := by
    unfold allInB
    refine decide_eq_true fun j hj => ?_
    have := r1 j hj
    first
      | exact ⟨this.1, by omega⟩
      | (unfold inB; simp; omega)
  refine ⟨?_, ?_, Nat.le_refl _, fun j hj => absurd hj (Nat.not_lt_zero _), fun j _ hj => absurd hj (Nat.not_lt_zero _)⟩
  · unfold bokB
    rw [h1]
    simp
  · have hf : fmB p n 1 x L.length (nthI L) = true := by
      unfold fmB
      rw [h2, hr, ha]
      decide
    have hn : hasB X 0 1 = false := decide_eq_false fun ⟨j, a, _⟩ => absurd a (Nat.not_lt_zero _)
    have hfr : freeB Y 0 x = true := decide_eq_true fun j hj => absurd hj (Nat.not_lt_zero _)
    unfold refV
    rw [if_pos hf, hn, if_pos hfr, if_pos hc]
    rfl
/-- A list appended whole to a list that the call has made, in a region that draws its order. -/
theorem wp_joinL {o : Oper} {a : Act} {KK : Act → World → Prop} {Q : Exit → Act → World → Prop} {W : World} (base : Nat) (v : Value) (l : List Int) (sx : Option Addr) (n c : Nat) (X : List Int) (s z : Operand)
    (ho : o.op = .call { callee := .builtin .append, args := #[s, z], argTypes := #[23, 23] }) (hs : a.eval s = v) (hx : a.eval z = .slice sx n c) (hXn : X.length = n) (hn : n ≤ 100000) (hl : l.length ≤ 100000) (hb : base ≤ W.heap.size) (hown : OwL base W v l) (R : RowI W sx n (nthI X))
    (h : ∀ s' cap w', OwL base w' (.slice s' (l.length + n) cap) (l ++ X) → Below base W w' → (∀ g, g < W.heap.size → v.ownBlock ≠ some g → w'.heap[g]? = W.heap[g]?) → KK (a.put o.dst (.slice s' (l.length + n) cap)) w') : o.wp Try.prog a W KK Q := by
  subst hXn
  obtain ⟨i0, hi, hz0, hz1, hz2⟩ := info_parts info_i64
  have hrun : ∃ s' cap w', (Builtin.append_ #[23, 23] o.type #[v, .slice sx X.length c]).run Try.prog W = .ok (.slice s' (l.length + X.length) cap) w' ∧ OwL base w' (.slice s' (l.length + X.length) cap) (l ++ X) ∧ Below base W w' ∧ ∀ g, g < W.heap.size → v.ownBlock ≠ some g → w'.heap[g]? = W.heap[g]? := by
    cases sx with
    | some ad =>
      obtain ⟨v', w', h1, h2, h3, _⟩ := run_append_own (P := Try.prog) (w := W) base 23 o.type 2 i0 (.int .i64 0) 1 8 Try.underlying23 hi hz0 hz1 hz2 rfl (by decide) v l.length (cellsOf l) hown ad X.length c (vals (nthI X) X.length) (by rw [vals_length, Nat.mul_one]) (row_addF R) (by
        intro u hu
        simp only [vals, List.mem_map] at hu
        obtain ⟨j, _, rfl⟩ := hu
        rfl) (by unfold maxLen; omega) (by omega) hb
      have h2' : OwL base w' v' (l ++ X) := by
        unfold OwL
        rw [List.length_append]
        rw [vals_nth] at h2
        have e : cellsOf (l ++ X) = cellsOf l ++ cellsOf X := by simp [cellsOf]
        rw [e]
        exact h2
      obtain ⟨s', cap, e, _⟩ := h2'.own
      rw [List.length_append] at e
      subst e
      exact ⟨s', cap, w', h1, h2', grown_below h3 hb (own_block hown), fun g hg hn => h3.block g hg (fun e => hn e.symm)⟩
    | none =>
      have e : X.length = 0 := by
        rcases Nat.eq_zero_or_pos X.length with q | q
        · exact q
        · obtain ⟨b, o, e, _⟩ := R 0 (by omega)
          cases e
      have e2 : X = [] := List.length_eq_zero_iff.1 e
      subst e2
      obtain ⟨s', cap, e3, _⟩ := hown.own
      subst e3
      refine ⟨s', cap, W, run_append_noneF (P := Try.prog) (w := W) base 23 o.type 2 i0 1 Try.underlying23 hi _ l.length c _ hown, ?_, Below.refl _ _, fun g _ _ => rfl⟩
      simpa using hown
  obtain ⟨s', cap, w', h1, h2, h3, h4⟩ := hrun
  unfold Oper.wp execOp
  simp only [ho, resolve, invoke, builtin, Sem.run_bind, Sem.run_pure, Result.andThen_ok, List.map_toArray, List.map_cons, List.map_nil, hs, hx, h1]
  exact h s' cap w' h2 h3 h4
theorem Blk.farJ {w w' : World} {b : Nat} {cs : List Value} {v : Value} (h : Blk w b cs) (hf : ∀ q, q < w.heap.size → v.ownBlock ≠ some q → w'.heap[q]? = w.heap[q]?) (hz : w.heap.size ≤ w'.heap.size) (hn : v.ownBlock ≠ some b) : Blk w' b cs := by
  have e := hf b h.1 hn
  exact ⟨Nat.lt_of_lt_of_le h.1 hz, fun o => (World.frozen?_of_block (a := ⟨b, o, none⟩) e).trans (h.2.1 o), fun i u q => (World.cell?_of_block (a := ⟨b, i, none⟩) e).trans (h.2.2 i u q)⟩

end Go.Proofs.Ytikcfpjfcpbfcaa
