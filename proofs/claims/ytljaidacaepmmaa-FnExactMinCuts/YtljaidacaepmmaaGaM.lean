/-
What is proved: lists of gates that the law owns, marked by its helper; those that are marked, asked.
-/
import Derived.Test.YtljaidacaepmmaaGaT
import Derived.Test.YtljaidacaepmmaaI64E
namespace Go.Proofs.Ytljaidacaepmmaa
set_option maxRecDepth 40000
open Go.ChangeShapes Go.WideShapes Go.ChangeAt Go.RowKit
set_option linter.unusedVariables false
set_option linter.unusedSimpArgs false

def GatmX (k : Int) (K : Nat → Nat) (i : Nat) : Int := k + ((i * 1 + suK K i : Nat) : Int)
def GatiX (m : Nat) (k : Int) (K : Nat → Nat) (X : Nat → Int) (i : Nat) : Int := if i < m then GatmX k K i else X i
def GatmV (k : Int) (K : Nat → Nat) (i j : Nat) : Int := k + ((i * 1 + suK K i : Nat) : Int) + 1 + (j : Int)
def GatiV (m : Nat) (k : Int) (K : Nat → Nat) (V : Nat → Nat → Int) (i j : Nat) : Int := if i < m then GatmV k K i j else V i j
def Gatup (X : Nat → Int) (m : Nat) (z : Int) (i : Nat) : Int := if i = m then z else X i
theorem Gat_store : ∀ (W : World) (a : Addr) (z : Int), (W.cell? a).isSome = true → W.frozen? a = false → (store a (.int .i64 z)).run Try.prog W = .ok () (W.setCell a (.int .i64 z)) := fun W a z h hf => by
  obtain ⟨u, hu⟩ := Option.isSome_iff_exists.1 h
  rw [run_store Try.prog W a _ _ rfl, hu]
  simp [hf]
theorem Gat_setX {S : Nat → Prop} {w : World} {n : Nat} {X : Nat → Int} {K : Nat → Nat} {V : Nat → Nat → Int} {b m : Nat} {z : Int} (h : GatR S w (some ⟨b, 0, none⟩) n X K V) (hm : m < n) : GatR S (w.setCell ⟨b, m * 2, none⟩ (.int .i64 z)) (some ⟨b, 0, none⟩) n (Gatup X m z) K V ∧ Turn S w (w.setCell ⟨b, m * 2, none⟩ (.int .i64 z)) := by
  obtain ⟨A, hA, hi⟩ := h
  have bs := Beside.setCell b w (m * 2) (.int .i64 z)
  have Sb : S b := by
    obtain ⟨b', a, c, e, h1, _⟩ := hA m hm
    cases e
    exact h1
  refine ⟨⟨A, fun i q => ?_, hi⟩, Turn.of bs Sb⟩
  obtain ⟨b', a, c, e, h1, hl, hf, c0, c1, hr⟩ := hA i q
  cases e
  refine ⟨b, a, c, rfl, h1, by simpa using hl, fun o => by simpa [go_sem] using hf o, ?_, ?_, fun p => ?_⟩
  · unfold Gatup
    by_cases e : i = m
    · subst e
      rw [if_pos rfl]
      exact World.cell?_setCell_same' _ _ _ (by rw [c0]; rfl)
    · rw [if_neg e, World.cell?_setCell_other _ _ _ _ (by intro y; injection y with _ y _; omega)]
      exact c0
  · rw [World.cell?_setCell_other _ _ _ _ (by intro y; injection y with _ y _; omega)]
    exact c1
  · obtain ⟨ea, n1, n2, n3, hv⟩ := hr p
    exact ⟨ea, n1, n2, by simpa using n3, fun j hj => ⟨(bs.cell (p := ⟨A i, j, none⟩) n3 n1).trans (hv j hj).1, (bs.frozen (p := ⟨A i, j, none⟩) n3 n1).trans (hv j hj).2⟩⟩
/-- One of the inner lists marked: all else is as it was. -/
theorem Gat_list {S : Nat → Prop} {w : World} {n : Nat} {X : Nat → Int} {K : Nat → Nat} {V : Nat → Nat → Int} {w' : World} {b m : Nat} {u : Nat → Int} (h : GatR S w (some ⟨b, 0, none⟩) n X K V) (hm : m < n)
    (h2 : ∀ x c, w.cell? ⟨b, m * 2 + 1, none⟩ = some (.slice (some ⟨x, 0, none⟩) (K m) c) → 0 < K m → Beside x w w' ∧ ∀ j, j < K m → w'.cell? ⟨x, j, none⟩ = some (.int .i64 (u j)) ∧ w'.frozen? ⟨x, j, none⟩ = false) (h0 : K m = 0 → w' = w) :
    GatR S w' (some ⟨b, 0, none⟩) n X K (fun i j => if i = m then u j else V i j) ∧ Turn S w w' := by
  by_cases z : K m = 0
  · rw [h0 z]
    refine ⟨?_, Turn.refl _ _⟩
    obtain ⟨A, hA, hi⟩ := h
    refine ⟨A, fun i q => ?_, hi⟩
    obtain ⟨b', a, c, e, g1, hl, hf, c0, c1, hr⟩ := hA i q
    refine ⟨b', a, c, e, g1, hl, hf, c0, c1, fun p => ?_⟩
    obtain ⟨ea, n1, n2, n3, hv⟩ := hr p
    refine ⟨ea, n1, n2, n3, fun j hj => ⟨?_, (hv j hj).2⟩⟩
    have ne : i ≠ m := fun q => by rw [q] at p; omega
    rw [(hv j hj).1]
    dsimp only
    rw [if_neg ne]
  · obtain ⟨A, hA, hi⟩ := h
    obtain ⟨bm, am, cm, em, g1m, hlm, hfm, d0, d1, hrm⟩ := hA m hm
    cases em
    obtain ⟨eam, n1m, n2m, n3m, hvm⟩ := hrm (by omega)
    subst eam
    obtain ⟨bs, hmk⟩ := h2 (A m) cm d1 (by omega)
    refine ⟨⟨A, fun i q => ?_, hi⟩, Turn.of bs n2m⟩
    obtain ⟨b', a, c, e, g1, hl, hf, c0, c1, hr⟩ := hA i q
    cases e
    refine ⟨b, a, c, rfl, g1, Nat.lt_of_lt_of_le hl bs.2.2.2.1, fun o => (bs.frozen (p := ⟨b, o, none⟩) hl (Ne.symm n1m)).trans (hf o), (bs.cell (p := ⟨b, i * 2, none⟩) hl (Ne.symm n1m)).trans c0, (bs.cell (p := ⟨b, i * 2 + 1, none⟩) hl (Ne.symm n1m)).trans c1, fun p => ?_⟩
    obtain ⟨ea, n1, n2, n3, hv⟩ := hr p
    refine ⟨ea, n1, n2, Nat.lt_of_lt_of_le n3 bs.2.2.2.1, fun j hj => ?_⟩
    by_cases q1 : i = m
    · subst q1
      dsimp only
      rw [if_pos rfl]
      exact hmk j hj
    · have nA : A i ≠ A m := fun q2 => q1 (hi i m q hm p (by omega) q2)
      refine ⟨(bs.cell (p := ⟨A i, j, none⟩) n3 nA).trans ?_, (bs.frozen (p := ⟨A i, j, none⟩) n3 nA).trans (hv j hj).2⟩
      dsimp only
      rw [(hv j hj).1, if_neg q1]
theorem Gat_mark_eq {m : Nat} {k : Int} {K : Nat → Nat} {X : Nat → Int} {V : Nat → Nat → Int} : Gatup (GatiX m k K X) m (GatmX k K m) = GatiX (m + 1) k K X ∧ (fun i j => if i = m then GatmV k K m j else GatiV m k K V i j) = GatiV (m + 1) k K V := by
  refine ⟨?_, ?_⟩
  · funext i
    unfold Gatup GatiX
    by_cases e : i = m
    · subst e; rw [if_pos rfl, if_pos (by omega)]
    · rw [if_neg e]
      by_cases q : i < m
      · rw [if_pos q, if_pos (by omega)]
      · rw [if_neg q, if_neg (by omega)]
  · funext i j
    unfold GatiV
    by_cases e : i = m
    · subst e; rw [if_pos rfl, if_pos (by omega)]
    · rw [if_neg e]
      by_cases q : i < m
      · rw [if_pos q, if_pos (by omega)]
      · rw [if_neg q, if_neg (by omega)]
theorem GatR.same {S : Nat → Prop} {w : World} {s : Option Addr} {n : Nat} {X : Nat → Int} {K : Nat → Nat} {V : Nat → Nat → Int} {X' : Nat → Int} {V' : Nat → Nat → Int} (h : GatR S w s n X K V) (eX : ∀ i, i < n → X i = X' i) (eV : ∀ i j, i < n → V i j = V' i j) : GatR S w s n X' K V' := by
  obtain ⟨A, hA, hi⟩ := h
  refine ⟨A, fun i q => ?_, hi⟩
  obtain ⟨b, a, c, e, g1, hl, hf, c0, c1, hr⟩ := hA i q
  refine ⟨b, a, c, e, g1, hl, hf, by rw [c0, eX i q], c1, fun p => ?_⟩
  obtain ⟨ea, n1, n2, n3, hv⟩ := hr p
  exact ⟨ea, n1, n2, n3, fun j hj => ⟨by rw [(hv j hj).1, eV i j q], (hv j hj).2⟩⟩
set_option maxRecDepth 20000 in
set_option maxHeartbeats 8000000 in
theorem markGateS_r (S : Nat → Prop) (s : Option Addr) (n c : Nat) (k : Int) (X : Nat → Int) (K : Nat → Nat) (V : Nat → Nat → Int) (w : World) (hn : (n : Int) + (suK K n : Int) ≤ 1048576) (k0 : 0 ≤ k) (k1 : k ≤ 40000000) (HR : GatR S w s n X K V) :
    Calls Try.prog 44 #[.slice s n c, .int .i64 k] w fun e w' => e = .returned (.int .i64 (k + ((n : Int) + (suK K n : Int)))) ∧ GatR S w' s n (GatmX k K) K (GatmV k K) ∧ Turn S w w' := by
  have sto := Gat_store
  have HR0 : Hid (GatR S w s n X K V) := HR
  clear HR
  go_enter Try.func44, Try.ntmps44
  go_wp2_with fail
  go_loopw [1, 5] (fun q i wr => ∃ m : Nat, m ≤ n ∧ i = .int .i64 m ∧ q = .int .i64 (k + ((m * 1 + suK K m : Nat) : Int)) ∧ Hid (GatR S wr s n (GatiX m k K X) K (GatiV m k K V)) ∧ Hid (Turn S w wr)) (fun _ i _ => n - (intOf i).toNat)
  case atStart => exact ⟨0, Nat.zero_le _, rfl, by simp [suK], (HR0.out.same (fun i _ => by unfold GatiX; rw [if_neg (Nat.not_lt_zero i)]) (fun i j _ => by unfold GatiV; rw [if_neg (Nat.not_lt_zero i)])), Turn.refl _ _⟩
  case round =>
    obtain ⟨m, hm, rfl, rfl, HO, HG⟩ := hrel
    by_cases h1 : m < n
    · have su := suK_in (K := K) h1
      have e1 : suK K (m + 1) = suK K m + K m := rfl
      have HL := HO.out
      obtain ⟨A, hA, -⟩ := HL
      obtain ⟨b, a, cc, rfl, g1, hl, hf, c0, c1, hr⟩ := hA m h1
      have k2 : (m : Int) < (n : Int) := by omega
      obtain ⟨x, hx⟩ : ∃ x, k + ((m * 1 + suK K m : Nat) : Int) = x := ⟨_, rfl⟩
      have HX : Hid (k + (((m + 1) * 1 + suK K (m + 1) : Nat) : Int) = x + 1 + (K m : Int)) := by show _ = _; rw [e1]; omega
      have x0 : 0 ≤ x := by omega
      have x1 : x ≤ 90000000 := by omega
      have km : (K m : Int) ≤ 1048576 := by omega
      have MX : Hid (GatmX k K m = x) := by show k + ((m * 1 + suK K m : Nat) : Int) = _; rw [hx]
      have MV : Hid (∀ j : Nat, GatmV k K m j = x + 1 + (j : Int)) := fun j => by show k + ((m * 1 + suK K m : Nat) : Int) + 1 + (j : Int) = _; rw [hx]
      rw [hx]
      clear hx e1 su
      obtain ⟨w1, hw1⟩ : ∃ y, y = wr.setCell ⟨b, m * 2, none⟩ (.int .i64 (x)) := ⟨_, rfl⟩
      have Q0 := Gat_setX (z := x) HO.out h1
      rw [← hw1] at Q0
      have HQ : Hid (GatR S w1 (some ⟨b, 0, none⟩) n (Gatup (GatiX m k K X) m (x)) K (GatiV m k K V)) := Q0.1
      have HT : Hid (Turn S wr w1) := Q0.2
      have zb : b < w1.heap.size := Nat.lt_of_lt_of_le hl HT.out.size
      have dl : w1.cell? ⟨b, m * 2 + 1, none⟩ = some (.slice a (K m) cc) := by
        rw [hw1, World.cell?_setCell_other _ _ _ _ (by intro y; injection y with _ y _; omega)]
        exact c1
      have fz := hf
      clear Q0 hA g1 hf
      have HFIN : Hid (∀ w2, GatR S w2 (some ⟨b, 0, none⟩) n (Gatup (GatiX m k K X) m (x)) K (fun i j => if i = m then GatmV k K m j else GatiV m k K V i j) → GatR S w2 (some ⟨b, 0, none⟩) n (GatiX (m + 1) k K X) K (GatiV (m + 1) k K V)) := fun w2 hq => by
        obtain ⟨qX, qV⟩ := Gat_mark_eq (m := m) (k := k) (K := K) (X := X) (V := V)
        rw [← qV, ← qX, MX.out]
        exact hq
      by_cases z : K m = 0
      · have HM := Gat_list (w' := w1) (u := GatmV k K m) HQ.out h1 (fun _ _ _ q => by omega) (fun _ => rfl)
        have HM1 := HFIN.out _ HM.1
        have HMH : Hid (GatR S w1 (some ⟨b, 0, none⟩) n (GatiX (m + 1) k K X) K (GatiV (m + 1) k K V)) := HM1
        have HMT : Hid (Turn S w w1) := HG.out.trans HT.out
        rw [z] at dl HX
        simp only [Int.natCast_zero, Int.add_zero] at HX
        clear hr HM HM1 HQ
        go_wp2_with fail
        rw [← hw1]
        clear c0 c1 hw1
        refine (markInt64S_nil a cc _ _).mono ?_
        rintro e w1 ⟨rfl, rfl⟩
        go_wp2
        go_roundw
        case rel => exact ⟨m + 1, by omega, by go_num, by rw [HX.out], HMH.out, HMT.out⟩
        case measure => first | (simp [intOf]; done) | (simp [intOf]; omega)
      · obtain ⟨rfl, n1, n2, n3, hv⟩ := hr (by omega)
        have HV : Hid (∀ j, j < K m → w1.cell? ⟨A m, j, none⟩ = some (.int .i64 (GatiV m k K V m j)) ∧ w1.frozen? ⟨A m, j, none⟩ = false) := by
          obtain ⟨A', hA', -⟩ := HQ.out
          obtain ⟨b', a', c', e', _, _, _, d0, d1, hr'⟩ := hA' m h1
          cases e'
          rw [dl] at d1
          cases d1
          obtain ⟨ea, _, _, _, hv'⟩ := hr' (by omega)
          have eA : A m = A' m := by simpa using ea
          rw [eA]
          exact hv'
        have zA : A m < w1.heap.size := Nat.lt_of_lt_of_le n3 HT.out.size
        obtain ⟨y, hy⟩ : ∃ y, A m = y := ⟨_, rfl⟩
        rw [hy] at dl HV zA c1
        have HMK : Hid (∀ w', Beside y w1 w' → (∀ j, j < K m → w'.cell? ⟨y, j, none⟩ = some (.int .i64 (x + 1 + (j : Int))) ∧ w'.frozen? ⟨y, j, none⟩ = false) → GatR S w' (some ⟨b, 0, none⟩) n (GatiX (m + 1) k K X) K (GatiV (m + 1) k K V) ∧ Turn S w1 w') := fun w' hb hq => by
          have HM := Gat_list (w' := w') (u := GatmV k K m) HQ.out h1 (fun x' c' hc' _ => by
            rw [dl] at hc'
            cases hc'
            exact ⟨hb, fun j hj => by rw [MV.out j]; exact hq j hj⟩) (fun q => absurd q z)
          exact ⟨HFIN.out _ HM.1, HM.2⟩
        obtain ⟨l, hl2⟩ : ∃ l, K m = l := ⟨_, rfl⟩
        rw [hl2] at dl HV HMK HX km c1
        clear hl2 hv hy n2 n3 HQ
        go_wp2_with fail
        rw [← hw1]
        clear c0 c1 hw1
        refine (markInt64S_at y l cc (x + 1) (GatiV m k K V m) _ km (by omega) (by omega) zA HV).mono ?_
        rintro e w9 ⟨rfl, hB, hf1, hc1⟩
        have HM := HMK.out w9 hB (fun j hj => ⟨by rw [hc1 j hj, if_pos hj], hf1 j hj⟩)
        have HM1 : Hid (GatR S w9 (some ⟨b, 0, none⟩) n (GatiX (m + 1) k K X) K (GatiV (m + 1) k K V)) := HM.1
        have HM2 : Hid (Turn S w w9) := (HG.out.trans HT.out).trans HM.2
        clear HM hB hf1 hc1
        go_wp2
        go_roundw
        case rel => exact ⟨m + 1, by omega, by go_num, by rw [HX.out], HM1.out, HM2.out⟩
        case measure => first | (simp [intOf]; done) | (simp [intOf]; omega)
    · obtain rfl : m = n := by omega
      have HE : Hid (GatR S wr s m (GatmX k K) K (GatmV k K)) := HO.out.same (fun i hi => by unfold GatiX; rw [if_pos hi]) (fun i j hi => by unfold GatiV; rw [if_pos hi])
      go_wp2
      go_ret
      exact ⟨ret_int (by first | rfl | omega), HE.out, HG.out⟩
end Go.Proofs.Ytljaidacaepmmaa
