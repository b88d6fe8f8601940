/-
What is proved: what the program tells a vote to bear.
-/
import Derived.Test.YtdneembeefflaaaToN
import Derived.Test.YtdneembeefflaaaCcI
import Derived.Test.YtdneembeefflaaaVoI
import Derived.Deep.DeepCutAuto
namespace Go.Proofs.Ytdneembeefflaaa
set_option maxRecDepth 40000
open Go.ChangeShapes Go.WideShapes Go.ChangeAt Go.RowKit
set_option linter.unusedVariables false
set_option linter.unusedSimpArgs false

def N3 (B K R j : Nat) : Nat := if j = 0 then B else if j = 1 then K else R
def V3 (x y z : Int) (j : Nat) (_ : Nat) : Int := if j = 0 then x else if j = 1 then y else z
def S3 (a b c : Nat) (j : Nat) : Option Addr := if j = 0 then some ⟨a, 0, none⟩ else if j = 1 then some ⟨b, 0, none⟩ else some ⟨c, 0, none⟩
theorem sum3 (B K R : Nat) : sumN (N3 B K R) 3 = B + K + R := by simp [sumN, N3]
theorem left_succ (V : Nat → Int) (k : Nat) : leftN V (k + 1) = leftN V k + (if V k = 0 ∨ V k = 1 ∨ V k = 2 then 1 else 0) := rfl
theorem trip_succ (V : Nat → Int) (k : Nat) : tripN V (k + 1) = tripN V k + (if V k = 1 ∨ V k = 2 then 1 else 0) := rfl
theorem left_cat (U X : Nat → Int) (m : Nat) : ∀ n, leftN (catU U m X) (m + n) = leftN U m + leftN X n ∧ tripN (catU U m X) (m + n) = tripN U m + tripN X n
  | 0 => by
    obtain ⟨a, b⟩ := left_ext (V := catU U m X) (U := U) m (fun j hj => by unfold catU; rw [if_pos hj])
    rw [Nat.add_zero, a, b]
    exact ⟨rfl, rfl⟩
  | n + 1 => by
    obtain ⟨a, b⟩ := left_cat U X m n
    have e : catU U m X (m + n) = X n := by unfold catU; rw [if_neg (by omega), show m + n - m = n by omega]
    rw [← Nat.add_assoc]
    rw [left_succ, left_succ X n, trip_succ, trip_succ X n, a, b, e]
    constructor <;> split <;> omega
theorem left_const (x : Int) (h0 : 0 ≤ x) (h3 : x ≤ 3) : ∀ n : Nat, leftN (fun _ => x) n = (if x = 3 then 0 else n) ∧ tripN (fun _ => x) n = (if x = 1 ∨ x = 2 then n else 0)
  | 0 => by constructor <;> split <;> rfl
  | n + 1 => by
    obtain ⟨a, b⟩ := left_const x h0 h3 n
    rcases (by omega : x = 0 ∨ x = 1 ∨ x = 2 ∨ x = 3) with e | e | e | e
    · obtain ⟨p, q⟩ := left_good (V := fun _ => x) (k := n) e
      rw [p, q, a, b, e]; simp
    · obtain ⟨p, q⟩ := left_trip (V := fun _ => x) (k := n) (Or.inl e)
      rw [p, q, a, b, e]; simp
    · obtain ⟨p, q⟩ := left_trip (V := fun _ => x) (k := n) (Or.inr e)
      rw [p, q, a, b, e]; simp
    · obtain ⟨p, q⟩ := left_out (V := fun _ => x) (k := n) e
      rw [p, q, a, b, e]; simp
theorem cc3 (B K R : Nat) (x y z : Int) : ccU (N3 B K R) (V3 x y z) 3 = catU (catU (catU (fun _ => 0) 0 (fun _ => x)) B (fun _ => y)) (B + K) (fun _ => z) := by
  have e0 : sumN (N3 B K R) 0 = 0 := rfl
  have e1 : sumN (N3 B K R) 1 = B := by simp [sumN, N3]
  have e2 : sumN (N3 B K R) 2 = B + K := by simp [sumN, N3]
  show catU (catU (catU _ (sumN (N3 B K R) 0) _) (sumN (N3 B K R) 1) _) (sumN (N3 B K R) 2) _ = _
  rw [e0, e1, e2]
  rfl
theorem cc3_counts (B K R : Nat) {x y z : Int} (hx : 0 ≤ x ∧ x ≤ 3) (hy : 0 ≤ y ∧ y ≤ 3) (hz : 0 ≤ z ∧ z ≤ 3) : leftN (ccU (N3 B K R) (V3 x y z) 3) (B + K + R) = (if x = 3 then 0 else B) + (if y = 3 then 0 else K) + (if z = 3 then 0 else R) ∧ tripN (ccU (N3 B K R) (V3 x y z) 3) (B + K + R) = (if x = 1 ∨ x = 2 then B else 0) + (if y = 1 ∨ y = 2 then K else 0) + (if z = 1 ∨ z = 2 then R else 0) := by
  rw [cc3]
  obtain ⟨a1, b1⟩ := left_cat (catU (catU (fun _ => 0) 0 (fun _ => x)) B (fun _ => y)) (fun _ => z) (B + K) R
  obtain ⟨a2, b2⟩ := left_cat (catU (fun _ => 0) 0 (fun _ => x)) (fun _ => y) B K
  obtain ⟨a3, b3⟩ := left_cat (fun _ => 0) (fun _ => x) 0 B
  rw [Nat.zero_add] at a3 b3
  obtain ⟨c1, d1⟩ := left_const x hx.1 hx.2 B
  obtain ⟨c2, d2⟩ := left_const y hy.1 hy.2 K
  obtain ⟨c3, d3⟩ := left_const z hz.1 hz.2 R
  rw [a1, b1, a2, b2, a3, b3, c1, c2, c3, d1, d2, d3]
  have l0 : leftN (fun _ => (0 : Int)) 0 = 0 := rfl
  have t0 : tripN (fun _ => (0 : Int)) 0 = 0 := rfl
  rw [l0, t0]
  omega
theorem cc3_in (B K R m : Nat) {x y z : Int} (hx : 0 ≤ x ∧ x ≤ 3) (hy : 0 ≤ y ∧ y ≤ 3) (hz : 0 ≤ z ∧ z ≤ 3) : allInB 0 3 (ccU (N3 B K R) (V3 x y z) 3) m = true := by
  rw [cc3]
  refine decide_eq_true fun j hj => ?_
  unfold catU
  repeat' split
  all_goals first | exact hx | exact hy | exact hz | exact ⟨by omega, by omega⟩
theorem three_at {w : World} {p a b c B K R : Nat} {x y z : Int} (hp : p < w.heap.size) (c0 : w.cell? ⟨p, 0, none⟩ = some (.slice (some ⟨a, 0, none⟩) B B)) (c1 : w.cell? ⟨p, 1, none⟩ = some (.slice (some ⟨b, 0, none⟩) K K)) (c2 : w.cell? ⟨p, 2, none⟩ = some (.slice (some ⟨c, 0, none⟩) R R)) (r0 : RowI w (some ⟨a, 0, none⟩) B (fun _ => x)) (r1 : RowI w (some ⟨b, 0, none⟩) K (fun _ => y)) (r2 : RowI w (some ⟨c, 0, none⟩) R (fun _ => z)) : ThreeAt w p (S3 a b c) (N3 B K R) (N3 B K R) (V3 x y z) :=
  ⟨hp, fun j hj => by
    rcases (by omega : j = 0 ∨ j = 1 ∨ j = 2) with e | e | e
    · subst e; exact ⟨c0, ⟨_, rfl⟩, r0⟩
    · subst e; exact ⟨c1, ⟨_, rfl⟩, r1⟩
    · subst e; exact ⟨c2, ⟨_, rfl⟩, r2⟩⟩
/-- What a row of so many bypassed, stuck and other ones votes. -/
theorem vote3 {B K R : Nat} {need : Int} (q : Bool) {x y z : Int} (hv : votersB ((B + K + R : Nat) : Int) need = true) (hx : x = 3) (hy : y = 1 - wantV q) (hz : z = wantV q) : (voteV (B + K + R) (ccU (N3 B K R) (V3 x y z) 3) need == wantV q) = aB q need 0 0 ((B + K + R : Nat) : Int) (B : Int) (K : Int) := by
  subst hx hy hz
  have wq : wantV q = 0 ∨ wantV q = 1 := by unfold wantV; cases q <;> simp
  rw [vote_is hv (cc3_in B K R _ ⟨by omega, by omega⟩ ⟨by omega, by omega⟩ ⟨by omega, by omega⟩)]
  obtain ⟨a, b⟩ := cc3_counts B K R (x := 3) (y := 1 - wantV q) (z := wantV q) ⟨by omega, by omega⟩ ⟨by omega, by omega⟩ ⟨by omega, by omega⟩
  rw [a, b]
  unfold raB
  rw [if_neg (by omega)]
  unfold aB wantV
  cases q
  · simp only [Bool.false_eq_true, if_false]
    congr 1
    exact decide_eq_decide.2 (by simp; omega)
  · simp only [if_true]
    exact decide_eq_decide.2 (by simp; omega)
set_option maxRecDepth 20000 in
set_option maxHeartbeats 4000000 in
theorem implTolerates_any (n need b k : Int) (w : World) (bn : -9223372036854775808 ≤ n ∧ n ≤ 9223372036854775807) (bb : -9223372036854775808 ≤ b ∧ b ≤ 9223372036854775807) :
    Calls Try.prog 7 #[.int .i64 n, .int .i64 need, .int .i64 b, .int .i64 k] w fun e w' => e = .returned (.tuple #[.bool (tolV true n need b k), .bool (tolV false n need b k)]) ∧ Below w.heap.size w w' := by
  go_enter Try.func7, Try.ntmps7
  go_wp2_with fail
  refine (votersOk_any _ _ _).mono ?_
  rintro e w ⟨rfl, rfl⟩
  cases hv : votersB n need
  · have HO : Hid (tolV true n need b k = false ∧ tolV false n need b k = false) := by
      have : tolB n need b k = false := by unfold tolB; rw [hv]; rfl
      unfold tolV
      rw [this]
      exact ⟨rfl, rfl⟩
    go_wp2
    exact bodyPost_ret (v := .tuple #[.bool false, .bool false]) (by simp [results, Try.results7, go_sem]) rfl ⟨by rw [HO.out.1, HO.out.2], Below.refl _ _⟩
  go_wp2_with fail
  refine (within_is _ _ _ _).mono ?_
  rintro e w ⟨rfl, rfl⟩
  cases h2 : inB 0 n b
  · have HO : Hid (tolV true n need b k = false ∧ tolV false n need b k = false) := by
      have : tolB n need b k = false := by unfold tolB; rw [hv, h2]; rfl
      unfold tolV
      rw [this]
      exact ⟨rfl, rfl⟩
    go_wp2
    exact bodyPost_ret (v := .tuple #[.bool false, .bool false]) (by simp [results, Try.results7, go_sem]) rfl ⟨by rw [HO.out.1, HO.out.2], Below.refl _ _⟩
  obtain ⟨n1, n8⟩ : 1 ≤ n ∧ n ≤ 8 := by
    unfold votersB at hv
    rw [Bool.and_eq_true] at hv
    exact inB_yes hv.1
  obtain ⟨b0, b1⟩ := inB_yes h2
  have wnb : IntKind.i64.wrap (n - b) = n - b := by rw [IntKind.wrap_i64]; omega
  go_wp2_with fail
  refine (within_is _ _ _ _).mono ?_
  rintro e w ⟨rfl, rfl⟩
  cases h3 : inB 0 (n - b) k
  · have HO : Hid (tolV true n need b k = false ∧ tolV false n need b k = false) := by
      have : tolB n need b k = false := by unfold tolB; rw [hv, h2, h3]; rfl
      unfold tolV
      rw [this]
      exact ⟨rfl, rfl⟩
    go_wp2
    exact bodyPost_ret (v := .tuple #[.bool false, .bool false]) (by simp [results, Try.results7, go_sem]) rfl ⟨by rw [HO.out.1, HO.out.2], Below.refl _ _⟩
  obtain ⟨k0, k1⟩ := inB_yes h3
  have ht : tolB n need b k = true := by unfold tolB; rw [hv, h2, h3]; rfl
  obtain ⟨B, rfl⟩ : ∃ B : Nat, b = (B : Int) := ⟨b.toNat, by omega⟩
  obtain ⟨K, rfl⟩ : ∃ K : Nat, k = (K : Int) := ⟨k.toNat, by omega⟩
  obtain ⟨R, hR⟩ : ∃ R : Nat, n - (B : Int) - (K : Int) = (R : Int) := ⟨(n - (B : Int) - (K : Int)).toNat, by omega⟩
  have en : n = ((B + K + R : Nat) : Int) := by omega
  have wr2 : IntKind.i64.wrap (n - (B : Int) - (K : Int)) = (R : Int) := by rw [IntKind.wrap_i64]; omega
  have HV1 : Hid ((voteV (B + K + R) (ccU (N3 B K R) (V3 3 0 1) 3) need == 1) = tolV true n need B K) := by
    show _ = _
    unfold tolV
    rw [ht, en, ← vote3 true (x := 3) (y := 0) (z := 1) (by rw [← en]; exact hv) rfl rfl rfl]
    rfl
  have HV0 : Hid ((voteV (B + K + R) (ccU (N3 B K R) (V3 3 1 0) 3) need == 0) = tolV false n need B K) := by
    show _ = _
    unfold tolV
    rw [ht, en, ← vote3 false (x := 3) (y := 1) (z := 0) (by rw [← en]; exact hv) rfl rfl rfl]
    rfl
  have B8 : B ≤ 8 := by omega
  have K8 : K ≤ 8 := by omega
  have R8 : R ≤ 8 := by omega
  have S1 : 1 ≤ sumN (N3 B K R) 3 := by rw [sum3]; omega
  have HN3 : Hid (∀ j, j < 3 → N3 B K R j ≤ 8) := fun j hj => by
    show N3 B K R j ≤ 8
    unfold N3
    split
    · exact B8
    · split
      · exact K8
      · exact R8
  have HS3 : Hid (sumN (N3 B K R) 3 = B + K + R) := sum3 B K R
  have hBKR : B + K + R ≤ 8 := by omega
  clear en hR
  clear hv h2 h3 ht wnb
  go_wp2_with fail
  refine (manySay_any B 3 _ B8).mono ?_
  rintro e w1 ⟨a, rfl, ra, h1⟩
  have RA : Hid (RowI w1 (some ⟨a, 0, none⟩) B (fun _ => 3)) := ra
  have HB : Hid (Below w.heap.size w w1) := h1
  clear ra h1
  go_wp2_with fail
  refine (manySay_any K 0 _ K8).mono ?_
  rintro e wd2 ⟨bd, rfl, rb, h1⟩
  have RBd : Hid (RowI wd2 (some ⟨bd, 0, none⟩) K (fun _ => 0)) := rb
  replace RA : Hid (RowI wd2 (some ⟨a, 0, none⟩) B (fun _ => 3)) := RA.out.below h1
  replace HB : Hid (Below w.heap.size w wd2) := HB.out.trans (h1.mono HB.out.size)
  clear rb h1
  go_wp2_with fail
  refine (manySay_any R 1 _ R8).mono ?_
  rintro e wd3 ⟨cd, rfl, rc, h1⟩
  have RCd : Hid (RowI wd3 (some ⟨cd, 0, none⟩) R (fun _ => 1)) := rc
  replace RBd : Hid (RowI wd3 (some ⟨bd, 0, none⟩) K (fun _ => 0)) := RBd.out.below h1
  replace RA : Hid (RowI wd3 (some ⟨a, 0, none⟩) B (fun _ => 3)) := RA.out.below h1
  replace HB : Hid (Below w.heap.size w wd3) := HB.out.trans (h1.mono HB.out.size)
  clear rc h1
  have HTTd : Hid (ThreeAt (wd3.alloc (.cells #[.slice (some ⟨a, 0, none⟩) B B, .slice (some ⟨bd, 0, none⟩) K K, .slice (some ⟨cd, 0, none⟩) R R] 25)) wd3.heap.size (S3 a bd cd) (N3 B K R) (N3 B K R) (V3 3 0 1)) := three_at (by simp) (by simp [go_sem]) (by simp [go_sem]) (by simp [go_sem]) (RA.out.below (below0 _ _)) (RBd.out.below (below0 _ _)) (RCd.out.below (below0 _ _))
  go_wp2_with fail
  refine (concat3_any _ _ _ _ _ _ HN3.out S1 HTTd).mono ?_
  rintro e wd4 ⟨sd, cpd, rfl, rd, h1⟩
  have bld : Below wd3.heap.size wd3 wd4 := Below.trans (by repeat (first | with_reducible exact Below.refl _ _ | with_reducible refine Below.setCell ?_ (by first | omega | (simp; done) | (simp; omega)) _ | with_reducible refine bDrewN ?_ _ | with_reducible refine Below.drew ?_ | with_reducible refine Below.alloc ?_ (by first | omega | (simp; done) | (simp; omega)) _)) (h1.mono (by first | omega | (simp; done) | (simp; omega)))
  have RDd : Hid (RowI wd4 sd (B + K + R) (ccU (N3 B K R) (V3 3 0 1) 3)) := by show RowI _ _ _ _; rw [← HS3.out]; exact rd
  replace RA : Hid (RowI wd4 (some ⟨a, 0, none⟩) B (fun _ => 3)) := RA.out.below bld
  replace HB : Hid (Below w.heap.size w wd4) := HB.out.trans (bld.mono HB.out.size)
  clear rd h1 bld RBd RCd HTTd
  try rw [HS3.out]
  go_wp2_with fail
  refine (manySay_any K 1 _ K8).mono ?_
  rintro e wq2 ⟨bq, rfl, rb, h1⟩
  have RBq : Hid (RowI wq2 (some ⟨bq, 0, none⟩) K (fun _ => 1)) := rb
  replace RA : Hid (RowI wq2 (some ⟨a, 0, none⟩) B (fun _ => 3)) := RA.out.below h1
  replace HB : Hid (Below w.heap.size w wq2) := HB.out.trans (h1.mono HB.out.size)
  replace RDd : Hid (RowI wq2 sd (B + K + R) (ccU (N3 B K R) (V3 3 0 1) 3)) := RDd.out.below h1
  clear rb h1
  go_wp2_with fail
  refine (manySay_any R 0 _ R8).mono ?_
  rintro e wq3 ⟨cq, rfl, rc, h1⟩
  have RCq : Hid (RowI wq3 (some ⟨cq, 0, none⟩) R (fun _ => 0)) := rc
  replace RBq : Hid (RowI wq3 (some ⟨bq, 0, none⟩) K (fun _ => 1)) := RBq.out.below h1
  replace RA : Hid (RowI wq3 (some ⟨a, 0, none⟩) B (fun _ => 3)) := RA.out.below h1
  replace HB : Hid (Below w.heap.size w wq3) := HB.out.trans (h1.mono HB.out.size)
  replace RDd : Hid (RowI wq3 sd (B + K + R) (ccU (N3 B K R) (V3 3 0 1) 3)) := RDd.out.below h1
  clear rc h1
  have HTTq : Hid (ThreeAt (wq3.alloc (.cells #[.slice (some ⟨a, 0, none⟩) B B, .slice (some ⟨bq, 0, none⟩) K K, .slice (some ⟨cq, 0, none⟩) R R] 25)) wq3.heap.size (S3 a bq cq) (N3 B K R) (N3 B K R) (V3 3 1 0)) := three_at (by simp) (by simp [go_sem]) (by simp [go_sem]) (by simp [go_sem]) (RA.out.below (below0 _ _)) (RBq.out.below (below0 _ _)) (RCq.out.below (below0 _ _))
  go_wp2_with fail
  refine (concat3_any _ _ _ _ _ _ HN3.out S1 HTTq).mono ?_
  rintro e wq4 ⟨sq, cpq, rfl, rd, h1⟩
  have blq : Below wq3.heap.size wq3 wq4 := Below.trans (by repeat (first | with_reducible exact Below.refl _ _ | with_reducible refine Below.setCell ?_ (by first | omega | (simp; done) | (simp; omega)) _ | with_reducible refine bDrewN ?_ _ | with_reducible refine Below.drew ?_ | with_reducible refine Below.alloc ?_ (by first | omega | (simp; done) | (simp; omega)) _)) (h1.mono (by first | omega | (simp; done) | (simp; omega)))
  have RDq : Hid (RowI wq4 sq (B + K + R) (ccU (N3 B K R) (V3 3 1 0) 3)) := by show RowI _ _ _ _; rw [← HS3.out]; exact rd
  replace RA : Hid (RowI wq4 (some ⟨a, 0, none⟩) B (fun _ => 3)) := RA.out.below blq
  replace HB : Hid (Below w.heap.size w wq4) := HB.out.trans (blq.mono HB.out.size)
  replace RDd : Hid (RowI wq4 sd (B + K + R) (ccU (N3 B K R) (V3 3 0 1) 3)) := RDd.out.below blq
  clear rd h1 blq RBq RCq HTTq
  try rw [HS3.out]
  clear RA
  go_wp2_with fail
  refine (implVote_any sd (B + K + R) cpd _ need _ (by omega) RDd).mono ?_
  rintro e w5 ⟨rfl, h1⟩
  have b5 : Below wq4.heap.size wq4 w5 := (by first | exact h1 | exact h1 ▸ Below.refl _ _)
  replace RDq : Hid (RowI w5 sq (B + K + R) (ccU (N3 B K R) (V3 3 1 0) 3)) := RDq.out.below b5
  replace HB : Hid (Below w.heap.size w w5) := HB.out.trans (b5.mono HB.out.size)
  clear h1 b5 RDd
  go_wp2_with fail
  refine (implVote_any sq (B + K + R) cpq _ need _ (by omega) RDq).mono ?_
  rintro e w6 ⟨rfl, h1⟩
  have b6 : Below w5.heap.size w5 w6 := (by first | exact h1 | exact h1 ▸ Below.refl _ _)
  replace HB : Hid (Below w.heap.size w w6) := HB.out.trans (b6.mono HB.out.size)
  clear h1 b6 RDq
  go_wp2
  exact bodyPost_ret (v := .tuple #[.bool (voteV (B + K + R) (ccU (N3 B K R) (V3 3 0 1) 3) need == 1), .bool (voteV (B + K + R) (ccU (N3 B K R) (V3 3 1 0) 3) need == 0)]) (by simp [results, Try.results7, go_sem]) rfl ⟨by rw [HV1.out, HV0.out], HB.out⟩
end Go.Proofs.Ytdneembeefflaaa
