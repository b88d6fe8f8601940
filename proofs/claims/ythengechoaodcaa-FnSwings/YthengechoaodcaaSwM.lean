/-
What is proved: the swings of a course that turns at each place are together as long as its way, none longer than its range.
-/
import Derived.Test.YthengechoaodcaaRnB
namespace Go.Proofs.Ythengechoaodcaa
set_option maxRecDepth 40000
open Go.ChangeShapes Go.WideShapes Go.ChangeAt Go.RowKit
set_option linter.unusedVariables false
set_option linter.unusedSimpArgs false

def tv : List Int → Int
  | a :: b :: r => apt a b + tv (b :: r)
  | _ => 0
def Alt : List Int → Prop
  | a :: b :: c :: r => ((b < a ∧ b < c) ∨ (a < b ∧ c < b)) ∧ Alt (b :: c :: r)
  | a :: b :: [] => a ≠ b
  | _ => True
def Dec : List Int → Prop
  | a :: b :: c :: r => apt a b < apt b c ∧ Dec (b :: c :: r)
  | _ => True
def sumW : List (Int × Int) → Int
  | [] => 0
  | p :: r => p.1 * p.2 + sumW r
theorem sumW_app (a b : List (Int × Int)) : sumW (a ++ b) = sumW a + sumW b := by
  induction a with
  | nil => simp [sumW]
  | cons p r ih => simp only [List.cons_append, sumW, ih]; omega
theorem Alt.tail {a : Int} {r : List Int} (h : Alt (a :: r)) : Alt r := by
  match r, h with
  | [], _ => trivial
  | [b], _ => trivial
  | b :: c :: r, h => exact h.2
theorem Alt.ne {a b : Int} {r : List Int} (h : Alt (a :: b :: r)) : a ≠ b := by
  match r, h with
  | [], h => exact h
  | c :: r, h => have := h.1; omega
theorem Alt.suffix : ∀ {l m : List Int}, Alt (l ++ m) → Alt m
  | [], m, h => h
  | a :: l, m, h => Alt.suffix (l := l) (Alt.tail h)
theorem Dec.tail {a : Int} {r : List Int} (h : Dec (a :: r)) : Dec r := by
  match r, h with
  | [], _ => trivial
  | [b], _ => trivial
  | b :: c :: r, h => exact h.2
theorem nth3 (L : List Int) (c b a : Int) : nthI (L ++ [c, b, a]) L.length = c ∧ nthI (L ++ [c, b, a]) (L.length + 1) = b ∧ nthI (L ++ [c, b, a]) (L.length + 2) = a := by
  unfold nthI
  simp only [List.getD_eq_getElem?_getD]
  refine ⟨?_, ?_, ?_⟩
  · rw [List.getElem?_append_right (by omega)]; simp
  · rw [List.getElem?_append_right (by omega), show L.length + 1 - L.length = 1 by omega]; rfl
  · rw [List.getElem?_append_right (by omega), show L.length + 2 - L.length = 2 by omega]; rfl
theorem cut_rev3 (a b c : Int) : cutS [c, b, a] = if apt a b < apt b c then none else some ([b, a], (apt b c, 1)) := by
  by_cases q : apt a b < apt b c
  · rw [if_pos q]; exact cut_stay (s := [c, b, a]) (m := 0) rfl q
  · rw [if_neg q]; exact cut_three (s := [c, b, a]) rfl q
theorem cut_rev (a b c e : Int) (rest : List Int) : cutS (a :: b :: c :: e :: rest).reverse = if apt a b < apt b c then none else some ((a :: e :: rest).reverse, (apt b c, 2)) := by
  have hs : (a :: b :: c :: e :: rest).reverse = (e :: rest).reverse ++ [c, b, a] := by simp
  rw [hs]
  obtain ⟨h1, h2, h3⟩ := nth3 (e :: rest).reverse c b a
  have hl : ((e :: rest).reverse ++ [c, b, a]).length = (e :: rest).reverse.length + 3 := by simp
  have hp : 0 < (e :: rest).reverse.length := by simp
  by_cases q : apt a b < apt b c
  · rw [if_pos q]
    exact cut_stay hl (by rw [h1, h2, h3]; exact q)
  · rw [if_neg q, cut_more hl hp (by rw [h1, h2, h3]; exact q), h1, h2, h3, List.take_left']
    · simp
    · rfl
theorem cuts_none {f : Nat} {s : List Int} (h : cutS s = none) : cutsS (f + 1) s = (s, []) := by
  show (match cutS s with | none => (s, []) | some (t, o) => ((cutsS f t).1, o :: (cutsS f t).2)) = _
  rw [h]
theorem cuts_some {f : Nat} {s t : List Int} {o : Int × Int} (h : cutS s = some (t, o)) : cutsS (f + 1) s = ((cutsS f t).1, o :: (cutsS f t).2) := by
  show (match cutS s with | none => (s, []) | some (t, o) => ((cutsS f t).1, o :: (cutsS f t).2)) = _
  rw [h]
theorem rev_eq {s r : List Int} (h : s.reverse = r) : s = r.reverse := by rw [← h, List.reverse_reverse]
theorem cuts_inv : ∀ (f : Nat) (s : List Int), s.length ≤ f → ∀ x r, s.reverse = x :: r → Alt (x :: r) → Dec r → ∃ t, (cutsS f s).1.reverse = x :: t ∧ Alt (x :: t) ∧ Dec (x :: t) ∧ sumW (cutsS f s).2 + tv (x :: t) = tv (x :: r) ∧ (∀ e r2, r = e :: r2 → ∃ e' t2, t = e' :: t2 ∧ (e < x ↔ e' < x))
  | 0, s, hl, x, r, hr, _, _ => by
    have : s = [] := List.eq_nil_of_length_eq_zero (by omega)
    subst this
    simp at hr
  | f + 1, s, hl, x, r, hr, hA, hD => by
    have hs := rev_eq hr
    have hlen : s.length = r.length + 1 := by rw [hs]; simp
    match r, hr, hA, hD, hs, hlen with
    | [], hr, hA, hD, hs, hlen =>
      rw [cuts_none (cut_small (by simp at hlen; omega))]
      exact ⟨[], hr, trivial, trivial, by simp [sumW], fun e r2 h => by cases h⟩
    | [b], hr, hA, hD, hs, hlen =>
      rw [cuts_none (cut_small (by simp at hlen; omega))]
      exact ⟨[b], hr, hA, trivial, by simp [sumW], fun e r2 h => ⟨e, r2, h, Iff.rfl⟩⟩
    | [b, c], hr, hA, hD, hs, hlen =>
      have hs3 : s = [c, b, x] := by rw [hs]; rfl
      by_cases q : apt x b < apt b c
      · rw [cuts_none (by rw [hs3, cut_rev3, if_pos q])]
        exact ⟨[b, c], hr, hA, ⟨q, hD⟩, by simp [sumW], fun e r2 h => ⟨e, r2, h, Iff.rfl⟩⟩
      · rw [cuts_some (show cutS s = some ([b, x], (apt b c, 1)) by rw [hs3, cut_rev3, if_neg q])]
        obtain ⟨t, h1, h2, h3, h4, h5⟩ := cuts_inv f [b, x] (by simp at hlen ⊢; omega) x [b] rfl hA.ne trivial
        refine ⟨t, h1, h2, h3, ?_, fun e r2 h => ?_⟩
        · show apt b c * 1 + sumW (cutsS f [b, x]).2 + tv (x :: t) = apt x b + (apt b c + 0)
          have : tv [x, b] = apt x b + 0 := rfl
          omega
        · cases h
          exact h5 b [] rfl
    | b :: c :: e :: rest, hr, hA, hD, hs, hlen =>
      by_cases q : apt x b < apt b c
      · rw [cuts_none (by rw [hs, cut_rev, if_pos q])]
        exact ⟨b :: c :: e :: rest, hr, hA, ⟨q, hD⟩, by simp [sumW], fun e r2 h => ⟨e, r2, h, Iff.rfl⟩⟩
      · rw [cuts_some (show cutS s = some ((x :: e :: rest).reverse, (apt b c, 2)) by rw [hs, cut_rev, if_neg q])]
        have a1 := hA.1
        have a2 : (c < b ∧ c < e) ∨ (b < c ∧ e < c) := hA.2.1
        have a3 : Alt (c :: e :: rest) := hA.2.2
        have d1 : apt b c < apt c e := hD.1
        have key : (e < x ∧ e < c ∧ e < b ∧ c ≤ x ∧ b < c) ∨ (x < e ∧ c < e ∧ b < e ∧ x ≤ c ∧ c < b) := by
          unfold apt at q d1
          split at q <;> split at q <;> split at d1 <;> split at d1 <;> omega
        have hA2 : Alt (x :: e :: rest) := by
          match rest, a3 with
          | [], _ => show x ≠ e; omega
          | g :: rest, a3 =>
            refine ⟨?_, a3.2⟩
            have := a3.1
            omega
        obtain ⟨t, h1, h2, h3, h4, h5⟩ := cuts_inv f (x :: e :: rest).reverse (by simp at hlen ⊢; omega) x (e :: rest) (by rw [List.reverse_reverse]) hA2 hD.2.tail
        refine ⟨t, h1, h2, h3, ?_, fun e' r2 h => ?_⟩
        · show apt b c * 2 + sumW (cutsS f (x :: e :: rest).reverse).2 + tv (x :: t) = apt x b + (apt b c + (apt c e + tv (e :: rest)))
          have h6 : tv (x :: e :: rest) = apt x e + tv (e :: rest) := rfl
          have h7 : apt x e + 2 * apt b c = apt x b + apt b c + apt c e := by
            unfold apt
            split <;> split <;> split <;> split <;> omega
          omega
        · cases h
          obtain ⟨e2, t2, h8, h9⟩ := h5 e rest rfl
          refine ⟨e2, t2, h8, ?_⟩
          rw [← h9]
          omega
theorem rain_inv {T : List Int} (hA : Alt T.reverse) : ∀ k, k ≤ T.length → (k = 0 ∧ (rainT T k).1 = [] ∧ (rainT T k).2 = []) ∨ ∃ x A r, (T.take k).reverse = x :: A ∧ (rainT T k).1.reverse = x :: r ∧ Alt (x :: r) ∧ Dec (x :: r) ∧ sumW (rainT T k).2 + tv (x :: r) = tv (x :: A) ∧ (A = [] → r = []) ∧ (∀ e A2, A = e :: A2 → ∃ e' r2, r = e' :: r2 ∧ (e < x ↔ e' < x))
  | 0, _ => .inl ⟨rfl, rfl, rfl⟩
  | k + 1, hk => by
    right
    have ht : T.take (k + 1) = T.take k ++ [nthI T k] := by
      rw [List.take_add_one, List.getElem?_eq_getElem (by omega)]
      unfold nthI
      rw [List.getD_eq_getElem?_getD, List.getElem?_eq_getElem (by omega)]
      rfl
    have hr : (T.take (k + 1)).reverse = nthI T k :: (T.take k).reverse := by rw [ht]; simp
    have hAk : Alt (nthI T k :: (T.take k).reverse) := by
      rw [← hr]
      have : T.reverse = (T.drop (k + 1)).reverse ++ (T.take (k + 1)).reverse := by rw [← List.reverse_append, List.take_append_drop]
      rw [this] at hA
      exact hA.suffix
    obtain ⟨y, hy⟩ : ∃ y, nthI T k = y := ⟨_, rfl⟩
    rw [hy] at hr hAk
    have e1 : (rainT T (k + 1)).1 = (rainIn ((rainT T k).1 ++ [y])).1 := by rw [← hy]; rfl
    have e2 : (rainT T (k + 1)).2 = (rainT T k).2 ++ (rainIn ((rainT T k).1 ++ [y])).2 := by rw [← hy]; rfl
    rw [e1, e2]
    rcases rain_inv hA k (by omega) with ⟨hk0, s0, o0⟩ | ⟨x, A, r, h1, h2, h3, h4, h5, h6, h7⟩
    · subst hk0
      have hz : rainIn ((rainT T 0).1 ++ [y]) = ([y], []) := by rw [s0]; exact rain_no (cut_small (by simp))
      rw [hz, o0]
      exact ⟨y, [], [], by simpa using hr, rfl, trivial, trivial, by simp [sumW], fun _ => rfl, fun e A2 h => by cases h⟩
    · rw [h1] at hr hAk
      have hrev : ((rainT T k).1 ++ [y]).reverse = y :: x :: r := by rw [List.reverse_append, h2]; rfl
      have hA2 : Alt (y :: x :: r) := by
        match r, h3, h7, h6 with
        | [], _, h7, _ => exact hAk.ne
        | e :: r2, h3, h7, h6 =>
          refine ⟨?_, h3⟩
          match A, h6, h7, hAk with
          | [], h6, _, _ => exact absurd (h6 rfl) (by simp)
          | e0 :: A2, _, h7, hAk =>
            obtain ⟨e', r3, h8, h9⟩ := h7 e0 A2 rfl
            cases h8
            have := hAk.1
            have := h3.ne
            omega
      obtain ⟨t, k1, k2, k3, k4, k5⟩ := cuts_inv ((rainT T k).1 ++ [y]).length ((rainT T k).1 ++ [y]) (Nat.le_refl _) y (x :: r) hrev hA2 h4
      refine ⟨y, x :: A, t, hr, k1, k2, k3, ?_, (fun h => by cases h), fun e A2 h => ?_⟩
      · rw [sumW_app]
        have k4' : sumW (rainIn ((rainT T k).1 ++ [y])).2 + tv (y :: t) = tv (y :: x :: r) := k4
        have z1 : tv (y :: x :: r) = apt y x + tv (x :: r) := rfl
        have z2 : tv (y :: x :: A) = apt y x + tv (x :: A) := rfl
        omega
      · cases h
        exact k5 x r rfl
theorem rest_pre (s t : List Int) : ∀ k, k < s.length → restS (s ++ t) k = restS s k
  | 0, _ => rfl
  | k + 1, h => by
    show restS (s ++ t) k ++ [(apt (nthI (s ++ t) (k + 1)) (nthI (s ++ t) k), 1)] = restS s k ++ [(apt (nthI s (k + 1)) (nthI s k), 1)]
    have e : ∀ j, j < s.length → nthI (s ++ t) j = nthI s j := fun j hj => by
      unfold nthI
      rw [List.getD_eq_getElem?_getD, List.getD_eq_getElem?_getD, List.getElem?_append_left hj]
    rw [rest_pre s t k (by omega), e (k + 1) h, e k (by omega)]
theorem rest_tv : ∀ (r : List Int), sumW (restS r.reverse (r.length - 1)) = tv r
  | [] => rfl
  | [a] => rfl
  | a :: b :: r => by
    have ih := rest_tv (b :: r)
    have hs : (a :: b :: r).reverse = (b :: r).reverse ++ [a] := by simp
    have hl : (a :: b :: r).length - 1 = r.length + 1 := by simp
    have hl2 : (b :: r).length - 1 = r.length := by simp
    rw [hl2] at ih
    rw [hl, hs]
    show sumW (restS ((b :: r).reverse ++ [a]) r.length ++ [(apt (nthI ((b :: r).reverse ++ [a]) (r.length + 1)) (nthI ((b :: r).reverse ++ [a]) r.length), 1)]) = apt a b + tv (b :: r)
    have n1 : nthI ((b :: r).reverse ++ [a]) (r.length + 1) = a := by
      unfold nthI
      rw [List.getD_eq_getElem?_getD, List.getElem?_append_right (by simp)]
      simp
    have n2 : nthI ((b :: r).reverse ++ [a]) r.length = b := by
      unfold nthI
      rw [List.getD_eq_getElem?_getD, List.getElem?_append_left (by simp)]
      simp
    rw [sumW_app, rest_pre _ _ _ (by simp), ih, n1, n2]
    simp only [sumW]
    omega
theorem rain_total {T : List Int} (hA : Alt T.reverse) : sumW (rainL T) = sumW (restS T (T.length - 1)) := by
  unfold rainL
  rw [sumW_app]
  have t1 := rest_tv T.reverse
  rw [List.reverse_reverse, List.length_reverse] at t1
  rw [t1]
  have t2 := rest_tv (rainT T T.length).1.reverse
  rw [List.reverse_reverse, List.length_reverse] at t2
  rw [t2]
  rcases rain_inv hA T.length (Nat.le_refl _) with ⟨h0, s0, o0⟩ | ⟨x, A, r, h1, h2, _, _, h5, _, _⟩
  · rw [s0, o0, List.eq_nil_of_length_eq_zero h0]
    rfl
  · rw [List.take_length] at h1
    rw [h2, h1]
    exact h5
/-- Between two bounds. -/
def In2 (lo hi : Int) (s : List Int) : Prop := ∀ x, x ∈ s → lo ≤ x ∧ x ≤ hi
def Gd (lo hi : Int) (p : Int × Int) : Prop := 0 ≤ p.1 ∧ p.1 ≤ hi - lo ∧ 1 ≤ p.2 ∧ p.2 ≤ 2
theorem in_nth {lo hi : Int} {s : List Int} (h : In2 lo hi s) {j : Nat} (hj : j < s.length) : lo ≤ nthI s j ∧ nthI s j ≤ hi := by
  unfold nthI
  rw [List.getD_eq_getElem?_getD, List.getElem?_eq_getElem hj]
  exact h _ (List.getElem_mem hj)
theorem apt_rng {lo hi a b : Int} (ha : lo ≤ a ∧ a ≤ hi) (hb : lo ≤ b ∧ b ≤ hi) : 0 ≤ apt a b ∧ apt a b ≤ hi - lo := by
  unfold apt
  split <;> omega
theorem cut_rng {lo hi : Int} {s t : List Int} {p : Int × Int} (h : In2 lo hi s) (c : cutS s = some (t, p)) : In2 lo hi t ∧ Gd lo hi p := by
  unfold cutS at c
  split at c
  · cases c
  · have z1 := in_nth h (show s.length - 2 < s.length by omega)
    have z2 := in_nth h (show s.length - 3 < s.length by omega)
    have z3 := in_nth h (show s.length - 1 < s.length by omega)
    have a1 := apt_rng z1 z2
    split at c
    · cases c
    · split at c
      · cases c
        refine ⟨fun x hx => ?_, a1.1, a1.2, by simp, by simp⟩
        simp at hx
        rcases hx with rfl | rfl
        · exact in_nth h (by omega)
        · exact in_nth h (by omega)
      · cases c
        refine ⟨fun x hx => ?_, a1.1, a1.2, by simp, by simp⟩
        rw [List.mem_append] at hx
        rcases hx with hx | hx
        · exact h x (List.mem_of_mem_take hx)
        · rw [List.mem_singleton] at hx; rw [hx]; exact z3
theorem cuts_rng {lo hi : Int} : ∀ (f : Nat) (s : List Int), In2 lo hi s → In2 lo hi (cutsS f s).1 ∧ ∀ p, p ∈ (cutsS f s).2 → Gd lo hi p
  | 0, s, h => ⟨h, fun p hp => by simp [cutsS] at hp⟩
  | f + 1, s, h => by
    cases q : cutS s with
    | none => rw [cuts_none q]; exact ⟨h, fun p hp => by simp at hp⟩
    | some u =>
      obtain ⟨t, o⟩ := u
      rw [cuts_some q]
      obtain ⟨h1, h2⟩ := cut_rng h q
      obtain ⟨h3, h4⟩ := cuts_rng f t h1
      refine ⟨h3, fun p hp => ?_⟩
      simp only [List.mem_cons] at hp
      rcases hp with rfl | hp
      · exact h2
      · exact h4 p hp
theorem rainT_rng {lo hi : Int} {T : List Int} (h : In2 lo hi T) : ∀ k, k ≤ T.length → In2 lo hi (rainT T k).1 ∧ ∀ p, p ∈ (rainT T k).2 → Gd lo hi p
  | 0, _ => ⟨fun x hx => by simp [rainT] at hx, fun p hp => by simp [rainT] at hp⟩
  | k + 1, hk => by
    obtain ⟨h1, h2⟩ := rainT_rng h k (by omega)
    have h3 : In2 lo hi ((rainT T k).1 ++ [nthI T k]) := fun x hx => by
      rw [List.mem_append] at hx
      rcases hx with hx | hx
      · exact h1 x hx
      · rw [List.mem_singleton] at hx; rw [hx]; exact in_nth h (by omega)
    obtain ⟨h4, h5⟩ := cuts_rng ((rainT T k).1 ++ [nthI T k]).length _ h3
    refine ⟨h4, fun p hp => ?_⟩
    have hp' : p ∈ (rainT T k).2 ++ (rainIn ((rainT T k).1 ++ [nthI T k])).2 := hp
    rw [List.mem_append] at hp'
    rcases hp' with q | q
    · exact h2 p q
    · exact h5 p q
theorem rest_rng {lo hi : Int} {s : List Int} (h : In2 lo hi s) : ∀ k, k < s.length ∨ k = 0 → ∀ p, p ∈ restS s k → Gd lo hi p
  | 0, _, p, hp => by simp [restS] at hp
  | k + 1, hk, p, hp => by
    have hp' : p ∈ restS s k ++ [(apt (nthI s (k + 1)) (nthI s k), 1)] := hp
    rw [List.mem_append] at hp'
    rcases hp' with q | q
    · exact rest_rng h k (by omega) p q
    · rw [List.mem_singleton] at q
      subst q
      have := apt_rng (in_nth h (show k + 1 < s.length by omega)) (in_nth h (show k < s.length by omega))
      exact ⟨this.1, this.2, by simp, by simp⟩
theorem rainL_rng {lo hi : Int} {T : List Int} (h : In2 lo hi T) : ∀ p, p ∈ rainL T → Gd lo hi p := by
  intro p hp
  unfold rainL at hp
  rw [List.mem_append] at hp
  obtain ⟨h1, h2⟩ := rainT_rng h T.length (Nat.le_refl _)
  rcases hp with q | q
  · exact h2 p q
  · exact rest_rng h1 _ (by omega) p q
theorem sumW_bd : ∀ (l : List (Int × Int)), (∀ p, p ∈ l → Gd (-100000) 100000 p) → 0 ≤ sumW l ∧ sumW l ≤ 400000 * (l.length : Int)
  | [], _ => by simp [sumW]
  | p :: r, h => by
    have h1 := h p (by simp)
    have h2 := sumW_bd r (fun q hq => h q (by simp [hq]))
    unfold Gd at h1
    have h3 : 0 ≤ p.1 * p.2 := Int.mul_nonneg h1.1 (by omega)
    have h4 : p.1 * p.2 ≤ 400000 := by
      rcases (show p.2 = 1 ∨ p.2 = 2 by omega) with q | q <;> rw [q] <;> omega
    simp only [sumW, List.length_cons]
    omega
theorem take_sum (l : List (Int × Int)) (j : Nat) (hj : j < l.length) : sumW (l.take (j + 1)) = sumW (l.take j) + (l.getD j (0, 0)).1 * (l.getD j (0, 0)).2 := by
  rw [List.take_add_one, sumW_app, List.getD_eq_getElem?_getD, List.getElem?_eq_getElem hj]
  simp [sumW]
theorem rest_sum (T : List Int) (k : Nat) : sumW (restS T (k + 1)) = sumW (restS T k) + apt (nthI T (k + 1)) (nthI T k) := by
  show sumW (restS T k ++ [(apt (nthI T (k + 1)) (nthI T k), 1)]) = _
  rw [sumW_app]
  simp [sumW]
/-- Turnings turn. -/
theorem turns_alt {m : Nat} {U : Nat → Int} (hU : ∀ j, j + 1 < m → U j ≠ U (j + 1)) : ∀ k, k + 1 < m → ∃ h r, (turns m U (k + 1)).reverse = h :: r ∧ Alt (U (k + 1) :: h :: r) ∧ (h < U (k + 1) ↔ U k < U (k + 1))
  | 0, hk => by
    have e : turns m U 1 = [U 0] := by
      unfold turns
      rw [if_pos (by unfold turnAt; simp)]
      rfl
    rw [e]
    exact ⟨U 0, [], rfl, fun h => hU 0 hk h.symm, Iff.rfl⟩
  | k + 1, hk => by
    obtain ⟨h, r, h1, h2, h3⟩ := turns_alt hU k (by omega)
    have n1 := hU k (by omega)
    have n2 := hU (k + 1) hk
    have e : turns m U (k + 1 + 1) = if turnAt m U (k + 1) = true then turns m U (k + 1) ++ [U (k + 1)] else turns m U (k + 1) := rfl
    have n3 := h2.ne
    by_cases q : turnAt m U (k + 1) = true
    · rw [e, if_pos q]
      refine ⟨U (k + 1), h :: r, by rw [List.reverse_append, h1]; rfl, ⟨?_, h2⟩, Iff.rfl⟩
      unfold turnAt at q
      have q2 := of_decide_eq_true q
      rcases q2 with q2 | q2 | q2
      · omega
      · omega
      · simp only [Nat.add_sub_cancel, decide_eq_decide] at q2
        omega
    · rw [e, if_neg q]
      have q2 : ¬ (decide (U k < U (k + 1)) = decide (U (k + 1 + 1) < U (k + 1))) := fun z => q (by
        unfold turnAt
        exact decide_eq_true (.inr (.inr (by simpa using z))))
      simp only [decide_eq_decide] at q2
      refine ⟨h, r, h1, ?_, by omega⟩
      match r, h2 with
      | [], h2 => show U (k + 1 + 1) ≠ h; omega
      | c :: r, h2 =>
        refine ⟨?_, h2.2⟩
        have := h2.1
        omega
theorem turns_rev {m : Nat} {U : Nat → Int} (hU : ∀ j, j + 1 < m → U j ≠ U (j + 1)) : Alt (turns m U m).reverse := by
  match m, hU with
  | 0, _ => trivial
  | 1, _ =>
    have e : turns 1 U 1 = [U 0] := by
      unfold turns
      rw [if_pos (by unfold turnAt; simp)]
      rfl
    rw [e]
    trivial
  | m + 2, hU =>
    obtain ⟨h, r, h1, h2, _⟩ := turns_alt hU m (by omega)
    have e : turns (m + 2) U (m + 2) = turns (m + 2) U (m + 1) ++ [U (m + 1)] := by
      show (if turnAt (m + 2) U (m + 1) = true then turns (m + 2) U (m + 1) ++ [U (m + 1)] else turns (m + 2) U (m + 1)) = _
      rw [if_pos (by unfold turnAt; simp)]
    rw [e, List.reverse_append, h1]
    exact h2
theorem rests_ne (V : Nat → Int) : ∀ k, (k = 0 ∧ rests V k = []) ∨ ((rests V k).getLast? = some (V (k - 1)) ∧ ∀ j, j + 1 < (rests V k).length → nthI (rests V k) j ≠ nthI (rests V k) (j + 1))
  | 0 => .inl ⟨rfl, rfl⟩
  | k + 1 => by
    right
    have e : rests V (k + 1) = if k = 0 ∨ V k ≠ V (k - 1) then rests V k ++ [V k] else rests V k := rfl
    rcases rests_ne V k with ⟨h0, h1⟩ | ⟨h0, h1⟩
    · subst h0
      rw [e, if_pos (.inl rfl), h1]
      exact ⟨rfl, fun j hj => by simp at hj⟩
    · by_cases q : k = 0 ∨ V k ≠ V (k - 1)
      · rw [e, if_pos q]
        refine ⟨by simp, fun j hj => ?_⟩
        have hl : j < (rests V k).length := by simpa using hj
        rw [nthI_snoc _ _ j (by omega), nthI_snoc _ _ (j + 1) (by omega), if_neg (by omega)]
        by_cases z : j + 1 = (rests V k).length
        · rw [if_pos z]
          have h2 : nthI (rests V k) j = V (k - 1) := by
            rw [List.getLast?_eq_getElem?] at h0
            unfold nthI
            rw [List.getD_eq_getElem?_getD, show j = (rests V k).length - 1 by omega, h0]
            rfl
          rw [h2]
          rcases q with q | q
          · subst q
            simp [rests] at hl
          · exact fun z => q z.symm
        · rw [if_neg z]
          exact h1 j (by omega)
      · rw [e, if_neg q]
        refine ⟨?_, h1⟩
        rw [h0]
        simp only [Nat.add_sub_cancel]
        have : V k = V (k - 1) := by
          by_cases z : V k = V (k - 1)
          · exact z
          · exact absurd (.inr z) q
        rw [this]
theorem turnL_alt (n : Nat) (V : Nat → Int) : Alt (turnL n V).reverse := by
  unfold turnL
  split
  · refine turns_rev fun j hj => ?_
    rcases rests_ne V n with ⟨_, h⟩ | ⟨_, h⟩
    · rw [h] at hj; simp at hj
    · exact h j hj
  · trivial
end Go.Proofs.Ythengechoaodcaa
