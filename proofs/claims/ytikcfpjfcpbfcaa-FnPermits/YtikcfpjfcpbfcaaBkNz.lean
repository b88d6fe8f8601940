/-
What is proved: a book of permits whose lists may be shared: a permit doubled.
-/
import Derived.Test.YtikcfpjfcpbfcaaGrSoz
import Derived.Test.YtikcfpjfcpbfcaaPmDz
namespace Go.Proofs.Ytikcfpjfcpbfcaa
set_option maxRecDepth 40000
open Go.ChangeShapes Go.WideShapes Go.ChangeAt Go.RowKit
set_option linter.unusedVariables false
set_option linter.unusedSimpArgs false

def BkF (base : Nat) (W : World) (v : Value) (n : Nat) (X Y : Nat → Int) (K : Nat → Nat) (V : Nat → Nat → Int) : Prop := ∃ (A : Nat → Option Addr) (C : Nat → Nat), W.ownsRow base 44 3 v n (ptC X Y K A C n) ∧ ∀ i, i < n → (K i ≤ C i ∧ (A i = none → C i = 0)) ∧ (0 < K i → ∃ g, A i = some ⟨g, 0, none⟩ ∧ base ≤ g ∧ g < W.heap.size ∧ TyJ W g ∧ ∀ j, j < K i → W.cell? ⟨g, j, none⟩ = some (.int .i64 (V i j)))
theorem PtKc.f {base n : Nat} {W : World} {v : Value} {X Y : Nat → Int} {K : Nat → Nat} {V : Nat → Nat → Int} (h : PtKc base W v n X Y K V) : BkF base W v n X Y K V := by
  obtain ⟨A, C, G, h1, h2, hc⟩ := h
  exact ⟨A, C, h1, fun i hi => ⟨hc i hi, fun q => by
    obtain ⟨r1, r2, r3, r4, r5⟩ := h2.1 i hi q
    exact ⟨G i, r1, r2, r3, r4, fun j hj => (r5 j hj).1⟩⟩⟩
theorem BkF.same {base n : Nat} {W W' : World} {v : Value} {X Y : Nat → Int} {K : Nat → Nat} {V : Nat → Nat → Int} (h : BkF base W v n X Y K V) (hz : W.heap.size ≤ W'.heap.size) (hs : ∀ g, base ≤ g → g < W.heap.size → W'.heap[g]? = W.heap[g]?) : BkF base W' v n X Y K V := by
  obtain ⟨A, C, h1, h2⟩ := h
  refine ⟨A, C, own_same h1 (fun g hg => hs g (World.ownsRow.lt h1 g hg).1 (World.ownsRow.lt h1 g hg).2), fun i hi => ⟨(h2 i hi).1, fun q => ?_⟩⟩
  obtain ⟨g, r1, r2, r3, r4, r5⟩ := (h2 i hi).2 q
  have e := hs g r2 r3
  exact ⟨g, r1, r2, Nat.lt_of_lt_of_le r3 hz, by unfold TyJ; rw [e]; exact r4, fun j hj => (World.cell?_of_block (w := W) (a := ⟨g, j, none⟩) e).trans (r5 j hj)⟩
theorem BkF.below {base n : Nat} {W W' : World} {v : Value} {X Y : Nat → Int} {K : Nat → Nat} {V : Nat → Nat → Int} (h : BkF base W v n X Y K V) (hb : Below W.heap.size W W') : BkF base W' v n X Y K V := h.same hb.size fun g _ q => hb.block g q
theorem BkF.beside {base n r : Nat} {W W' : World} {v : Value} {X Y : Nat → Int} {K : Nat → Nat} {V : Nat → Nat → Int} (h : BkF base W v n X Y K V) (hb : Beside r W W') (hr : r < base) : BkF base W' v n X Y K V := h.same hb.2.2.2.1 fun g q1 q => hb.2.2.2.2 g q (by omega)
theorem BkF.low {base b n : Nat} {W : World} {v : Value} {X Y : Nat → Int} {K : Nat → Nat} {V : Nat → Nat → Int} (h : BkF base W v n X Y K V) (hb : b ≤ base) : BkF b W v n X Y K V := by
  obtain ⟨A, C, h1, h2⟩ := h
  refine ⟨A, C, ⟨h1.1, ?_⟩, fun i hi => ⟨(h2 i hi).1, fun q => ?_⟩⟩
  · rcases h1.2 with q | ⟨g, cap, cur, e1, q, r⟩
    · exact .inl q
    · exact .inr ⟨g, cap, cur, e1, by omega, r⟩
  · obtain ⟨g, r1, r2, r⟩ := (h2 i hi).2 q
    exact ⟨g, r1, by omega, r⟩
theorem BkF.row {base n cap : Nat} {W : World} {t : Option Addr} {X Y : Nat → Int} {K : Nat → Nat} {V : Nat → Nat → Int} (h : BkF base W (.slice t n cap) n X Y K V) : RowPer W t n X Y K V ∧ n ≤ cap := by
  obtain ⟨A, C, h1, h2⟩ := h
  have h3 := h1
  rcases h1.2 with ⟨e, q⟩ | ⟨g, cap', cur, e, hb, hg, hc, _⟩
  · cases e; exact ⟨fun i hi => by omega, by omega⟩
  · cases e
    have zg := (Array.getElem?_eq_some_iff.1 hg).1
    refine ⟨fun i hi => ?_, hc⟩
    obtain ⟨a, b, c⟩ := ptC_at X Y K A C n i hi
    refine ⟨g, 0, A i, C i, rfl, zg, by rw [Nat.zero_add, h3.cellAt (i * 3) (by omega)]; exact a, by rw [Nat.zero_add, h3.cellAt (i * 3 + 1) (by omega)]; exact b, by rw [Nat.zero_add, h3.cellAt (i * 3 + 2) (by omega)]; exact c, fun j hj => ?_⟩
    obtain ⟨g', r1, r2, r3, r4, r5⟩ := (h2 i hi).2 (by omega)
    exact ⟨g', 0, r1, r3, by rw [Nat.zero_add]; exact r5 j hj⟩
theorem BkF.at0 {base n cap : Nat} {W : World} {t : Option Addr} {X Y : Nat → Int} {K : Nat → Nat} {V : Nat → Nat → Int} (h : BkF base W (.slice t n cap) n X Y K V) (hn : 0 < n) : ∃ g a c, t = some ⟨g, 0, none⟩ ∧ base ≤ g ∧ g < W.heap.size ∧ n ≤ cap ∧ (∀ o, W.frozen? ⟨g, o, none⟩ = false) ∧ W.cell? ⟨g, 0, none⟩ = some (.int .i64 (X 0)) ∧ W.cell? ⟨g, 1, none⟩ = some (.int .i64 (Y 0)) ∧ W.cell? ⟨g, 2, none⟩ = some (.slice a (K 0) c) ∧ (K 0 ≤ c ∧ (a = none → c = 0)) ∧ RowI W a (K 0) (V 0) ∧ (0 < K 0 → ∃ g', a = some ⟨g', 0, none⟩ ∧ base ≤ g' ∧ g' < W.heap.size ∧ TyJ W g' ∧ ∀ j, j < K 0 → W.cell? ⟨g', j, none⟩ = some (.int .i64 (V 0 j))) := by
  obtain ⟨A, C, h1, h2⟩ := h
  have h3 := h1
  rcases h1.2 with ⟨e, q⟩ | ⟨g, cap', cur, e, hb, hg, hc, _⟩
  · omega
  · cases e
    have zg := (Array.getElem?_eq_some_iff.1 hg).1
    obtain ⟨a, b, c⟩ := ptC_at X Y K A C n 0 hn
    refine ⟨g, A 0, C 0, rfl, hb, zg, hc, fun o => by simp [World.frozen?, hg], by rw [h3.cellAt 0 (by omega)]; exact a, by rw [h3.cellAt 1 (by omega)]; exact b, by rw [h3.cellAt 2 (by omega)]; exact c, (h2 0 hn).1, fun j hj => ?_, (h2 0 hn).2⟩
    obtain ⟨g', r1, r2, r3, r4, r5⟩ := (h2 0 hn).2 (by omega)
    exact ⟨g', 0, r1, r3, by rw [Nat.zero_add]; exact r5 j hj⟩
/-- One function told anew at one place. -/
def atF {α : Type} (n : Nat) (x : α) (f : Nat → α) (i : Nat) : α := if i = n then x else f i
theorem grant_q (p : Int) (n : Nat) (D : Nat → Int × Int) (m : Nat) (S : Nat → Int) (nb : Nat) (X Y : Nat → Int) (K : Nat → Nat) (V : Nat → Nat → Int) (id pl : Int) (kp : Nat) (vp : Nat → Int) : ∃ q, bokB p n D m S nb X Y K V = true → refV p n D m S nb X Y id pl kp vp = 0 → InsAt nb X id q := by
  by_cases h : bokB p n D m S nb X Y K V = true ∧ hasB X nb id = false
  · obtain ⟨q, hq⟩ := ins_ex nb X id (bok_rises h.1) h.2
    exact ⟨q, fun _ _ => hq⟩
  · refine ⟨0, fun h1 h2 => absurd ⟨h1, ?_⟩ h⟩
    cases e : hasB X nb id
    · rfl
    · unfold refV at h2
      rw [e] at h2
      split at h2
      · simp at h2
      · simp at h2
theorem gr_any {p : Int} {n : Nat} {D : Nat → Int × Int} {m : Nat} {S : Nat → Int} {nb : Nat} {X Y : Nat → Int} {K : Nat → Nat} {V : Nat → Nat → Int} {id pl : Int} {kp : Nat} {vp : Nat → Int} {q : Nat} {w : World} {e : Ending} {w' : World} (h : GrAnsK p n D m S nb X Y K V id pl kp vp q w e w') (hk : kp ≤ 70000) (hK : ∀ i, i < nb → K i ≤ 70000) (hq : bokB p n D m S nb X Y K V = true → refV p n D m S nb X Y id pl kp vp = 0 → InsAt nb X id q) :
    ∃ (s : Option Addr) (c nr : Nat) (X' Y' : Nat → Int) (K' : Nat → Nat) (V' : Nat → Nat → Int) (cd : Int), e = .returned (.tuple #[.agg #[.slice s nr c], .int .i64 cd]) ∧ nr ≤ nb + 1 ∧ (∀ i, i < nr → K' i ≤ 70000) ∧ PtKc w.heap.size w' (.slice s nr c) nr X' Y' K' V' ∧ Below w.heap.size w w' := by
  unfold GrAnsK at h
  split at h
  · next hb =>
    split at h
    · next hr =>
      obtain ⟨s, c, e1, e2, e3⟩ := h
      have hi := (hq hb hr).1
      refine ⟨s, c, nb + 1, _, _, _, _, 0, e1, Nat.le_refl _, fun i hi' => ?_, e2, e3⟩
      unfold inF
      split
      · exact hK i (by omega)
      · split
        · exact hk
        · exact hK (i - 1) (by omega)
    · obtain ⟨s, c, e1, e2, e3⟩ := h
      exact ⟨s, c, nb, _, _, _, _, _, e1, by omega, hK, e2, e3⟩
  · obtain ⟨s, c, e1, e2, e3⟩ := h
    exact ⟨s, c, 0, _, _, _, _, _, e1, by omega, fun i hi => by omega, e2, e3⟩
theorem ptC_atF (X Y : Nat → Int) (K : Nat → Nat) (A : Nat → Option Addr) (C : Nat → Nat) (n : Nat) (x y : Int) (k' : Nat) (a : Option Addr) (c : Nat) : ptC (atF n x X) (atF n y Y) (atF n k' K) (atF n a A) (atF n c C) (n + 1) = ptC X Y K A C n ++ [.int .i64 x, .int .i64 y, .slice a k' c] := by
  have h : ∀ m, m ≤ n → ptC (atF n x X) (atF n y Y) (atF n k' K) (atF n a A) (atF n c C) m = ptC X Y K A C m := by
    intro m
    induction m with
    | zero => intro _; rfl
    | succ m ih =>
      intro hm
      unfold ptC
      rw [ih (by omega)]
      simp only [atF, if_neg (show ¬ m = n by omega)]
  rw [ptC, h n (Nat.le_refl _)]
  simp [atF]
theorem bk_dup {base n g9 cap : Nat} {W W' : World} {v : Value} {X Y : Nat → Int} {K : Nat → Nat} {V : Nat → Nat → Int} {A : Nat → Option Addr} {C : Nat → Nat} (hn : 0 < n) (h1 : W.ownsRow base 44 3 v n (ptC X Y K A C n)) (h2 : ∀ i, i < n → (K i ≤ C i ∧ (A i = none → C i = 0)) ∧ (0 < K i → ∃ g, A i = some ⟨g, 0, none⟩ ∧ base ≤ g ∧ g < W.heap.size ∧ TyJ W g ∧ ∀ j, j < K i → W.cell? ⟨g, j, none⟩ = some (.int .i64 (V i j)))) (hown : W'.ownsRow base 44 3 (.slice (some ⟨g9, 0, none⟩) (n + 1) cap) (n + 1) (ptC X Y K A C n ++ [.int .i64 (X 0), .int .i64 (Y 0), .slice (A 0) (K 0) (C 0)])) (hg : W.grownBy W' v.ownBlock) : BkF base W' (.slice (some ⟨g9, 0, none⟩) (n + 1) cap) (n + 1) (atF n (X 0) X) (atF n (Y 0) Y) (atF n (K 0) K) (atF n (V 0) V) := by
  have keep : ∀ g, g < W.heap.size → TyJ W g → W'.heap[g]? = W.heap[g]? := fun g hl hc => hg.block g hl (fun e => apartP hc (ownP_ty h1 e.symm) rfl)
  have go : ∀ i, i < n → (K i ≤ C i ∧ (A i = none → C i = 0)) ∧ (0 < K i → ∃ g, A i = some ⟨g, 0, none⟩ ∧ base ≤ g ∧ g < W'.heap.size ∧ TyJ W' g ∧ ∀ j, j < K i → W'.cell? ⟨g, j, none⟩ = some (.int .i64 (V i j))) := fun i hi => ⟨(h2 i hi).1, fun q => by
    obtain ⟨g, r1, r2, r3, r4, r5⟩ := (h2 i hi).2 q
    have ke := keep g r3 r4
    exact ⟨g, r1, r2, Nat.lt_of_lt_of_le r3 hg.size, by unfold TyJ; rw [ke]; exact r4, fun j hj => (World.cell?_of_block (w := W) (a := ⟨g, j, none⟩) ke).trans (r5 j hj)⟩⟩
  refine ⟨atF n (A 0) A, atF n (C 0) C, by rw [ptC_atF]; exact hown, fun i hi => ?_⟩
  by_cases e : i = n
  · subst e
    simp only [atF, if_true]
    exact go 0 hn
  · simp only [atF, if_neg e]
    exact go i (by omega)
theorem ptC_set (X Y : Nat → Int) (K : Nat → Nat) (A : Nat → Option Addr) (C : Nat → Nat) (k' : Nat) (a : Option Addr) (c : Nat) : ∀ n, 0 < n → (ptC X Y K A C n).set 2 (.slice a k' c) = ptC X Y (atF 0 k' K) (atF 0 a A) (atF 0 c C) n := by
  intro n hn
  induction n with
  | zero => omega
  | succ n ih =>
    by_cases e : n = 0
    · subst e; simp [ptC, atF]
    · have hl := ptC_len X Y K A C n
      rw [ptC, ptC, List.set_append_left _ _ (by omega), ih (by omega)]
      simp [atF, e]
theorem bk_cut {base n g cap : Nat} {W : World} {X Y : Nat → Int} {K : Nat → Nat} {V : Nat → Nat → Int} (h : BkF base W (.slice (some ⟨g, 0, none⟩) n cap) n X Y K V) (hn : 0 < n) {a' : Option Addr} {k' c' : Nat} {V' : Nat → Int} (hk : k' ≤ c' ∧ (a' = none → c' = 0)) (hL : 0 < k' → ∃ g', a' = some ⟨g', 0, none⟩ ∧ base ≤ g' ∧ g' < W.heap.size ∧ TyJ W g' ∧ ∀ j, j < k' → W.cell? ⟨g', j, none⟩ = some (.int .i64 (V' j))) : BkF base (W.setCell ⟨g, 2, none⟩ (.slice a' k' c')) (.slice (some ⟨g, 0, none⟩) n cap) n X Y (atF 0 k' K) (atF 0 V' V) := by
  obtain ⟨A, C, h1, h2⟩ := h
  obtain ⟨s1, hg⟩ := h1.stored 2 (.slice a' k' c')
  have tyg := ownP_ty h1 (g := g) rfl
  have keep : ∀ g', g' < W.heap.size → TyJ W g' → (W.setCell ⟨g, 2, none⟩ (.slice a' k' c')).heap[g']? = W.heap[g']? := fun g' hl hc => hg.block g' hl (fun e => by cases e; exact apartP hc tyg rfl)
  refine ⟨atF 0 a' A, atF 0 c' C, by rw [← ptC_set X Y K A C k' a' c' n hn]; exact s1, fun i hi => ?_⟩
  by_cases e : i = 0
  · subst e
    simp only [atF, if_true]
    refine ⟨hk, fun q => ?_⟩
    obtain ⟨g', r1, r2, r3, r4, r5⟩ := hL q
    have ke := keep g' r3 r4
    exact ⟨g', r1, r2, Nat.lt_of_lt_of_le r3 hg.size, by unfold TyJ; rw [ke]; exact r4, fun j hj => (World.cell?_of_block (w := W) (a := ⟨g', j, none⟩) ke).trans (r5 j hj)⟩
  · simp only [atF, if_neg e]
    refine ⟨(h2 i hi).1, fun q => ?_⟩
    obtain ⟨g', r1, r2, r3, r4, r5⟩ := (h2 i hi).2 q
    have ke := keep g' r3 r4
    exact ⟨g', r1, r2, Nat.lt_of_lt_of_le r3 hg.size, by unfold TyJ; rw [ke]; exact r4, fun j hj => (World.cell?_of_block (w := W) (a := ⟨g', j, none⟩) ke).trans (r5 j hj)⟩
def BkA (base : Nat) (W : World) (v : Value) (n : Nat) (X Y : Nat → Int) (K : Nat → Nat) (V : Nat → Nat → Int) (A : Nat → Option Addr) (C : Nat → Nat) : Prop := W.ownsRow base 44 3 v n (ptC X Y K A C n) ∧ ∀ i, i < n → (K i ≤ C i ∧ (A i = none → C i = 0)) ∧ (0 < K i → ∃ g, A i = some ⟨g, 0, none⟩ ∧ base ≤ g ∧ g < W.heap.size ∧ TyJ W g ∧ ∀ j, j < K i → W.cell? ⟨g, j, none⟩ = some (.int .i64 (V i j)))
theorem BkA.below {base n : Nat} {W W' : World} {v : Value} {X Y : Nat → Int} {K : Nat → Nat} {V : Nat → Nat → Int} {A : Nat → Option Addr} {C : Nat → Nat} (h : BkA base W v n X Y K V A C) (hb : Below W.heap.size W W') : BkA base W' v n X Y K V A C := by
  refine ⟨own_same h.1 (fun g hg => hb.block g (World.ownsRow.lt h.1 g hg).2), fun i hi => ⟨(h.2 i hi).1, fun q => ?_⟩⟩
  obtain ⟨g, r1, r2, r3, r4, r5⟩ := (h.2 i hi).2 q
  have e := hb.block g r3
  exact ⟨g, r1, r2, Nat.lt_of_lt_of_le r3 hb.size, by unfold TyJ; rw [e]; exact r4, fun j hj => (World.cell?_of_block (w := W) (a := ⟨g, j, none⟩) e).trans (r5 j hj)⟩
theorem BkA.at0 {base n cap : Nat} {W : World} {t : Option Addr} {X Y : Nat → Int} {K : Nat → Nat} {V : Nat → Nat → Int} {A : Nat → Option Addr} {C : Nat → Nat} (h : BkA base W (.slice t n cap) n X Y K V A C) (hn : 0 < n) : ∃ g, t = some ⟨g, 0, none⟩ ∧ base ≤ g ∧ g < W.heap.size ∧ W.frozen? ⟨g, 2, none⟩ = false ∧ W.cell? ⟨g, 0, none⟩ = some (.int .i64 (X 0)) ∧ W.cell? ⟨g, 1, none⟩ = some (.int .i64 (Y 0)) ∧ W.cell? ⟨g, 2, none⟩ = some (.slice (A 0) (K 0) (C 0)) := by
  have h3 := h.1
  rcases h.1.2 with ⟨e, q⟩ | ⟨g, cap', cur, e, hb, hg, hc, _⟩
  · omega
  · cases e
    have zg := (Array.getElem?_eq_some_iff.1 hg).1
    obtain ⟨a, b, c⟩ := ptC_at X Y K A C n 0 hn
    exact ⟨g, rfl, hb, zg, by simp [World.frozen?, hg], by rw [h3.cellAt 0 (by omega)]; exact a, by rw [h3.cellAt 1 (by omega)]; exact b, by rw [h3.cellAt 2 (by omega)]; exact c⟩
theorem BkA.rowI {base n : Nat} {W : World} {v : Value} {X Y : Nat → Int} {K : Nat → Nat} {V : Nat → Nat → Int} {A : Nat → Option Addr} {C : Nat → Nat} (h : BkA base W v n X Y K V A C) (hn : 0 < n) {k2 : Nat} (hk : k2 ≤ K 0) : RowI W (A 0) k2 (nthI (lsOf (V 0) k2)) := fun j hj => by
  obtain ⟨g, r1, r2, r3, r4, r5⟩ := (h.2 0 hn).2 (by omega)
  exact ⟨g, 0, r1, r3, by rw [Nat.zero_add, ls_nth (V 0) hj]; exact r5 j (by omega)⟩
end Go.Proofs.Ytikcfpjfcpbfcaa
