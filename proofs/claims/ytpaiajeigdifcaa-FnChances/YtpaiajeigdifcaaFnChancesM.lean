/-
What is proved: FnChances: the chance of a drawn tree is at least 0, at most its upper bound and at most the whole; 8 times it is what each basic's weight times its eighths and 8 times the chance without it are together; no condition.
-/
import Derived.Test.YtpaiajeigdifcaaQeA
import Derived.Test.YtpaiajeigdifcaaChE
import Derived.Test.YtpaiajeigdifcaaChI
import Derived.Test.YtpaiajeigdifcaaQeB
import Derived.Test.YtpaiajeigdifcaaQeC
import Derived.Deep.RegionHeldLaw
import Derived.Deep.DeepCutAuto
namespace Go.Proofs.Ytpaiajeigdifcaa
set_option maxRecDepth 40000
open Go.ChangeShapes Go.WideShapes Go.ChangeAt Go.RowKit
set_option linter.unusedVariables false
set_option linter.unusedSimpArgs false

set_option maxHeartbeats 2000000 in
theorem power8_any (x : Nat) (hx : x ≤ 10) (w : World) : Calls Try.prog 24 #[.int .i64 x] w fun e w' => e = .returned (.int .i64 (8 ^ x)) ∧ w' = w := by
  go_enter Try.func24, Try.ntmps24
  go_wp2_with fail
  go_loopw [3, 4] (fun v i wx => ∃ (k : Nat) (P : Int), k ≤ x ∧ i = .int .i64 k ∧ v = .int .i64 P ∧ Hid (P = 8 ^ k) ∧ wx = w) (fun _ i _ => x - (intOf i).toNat)
  case atStart => exact ⟨0, 1, by omega, rfl, rfl, rfl, rfl⟩
  case round =>
    obtain ⟨k, P, hk, rfl, rfl, HP, rfl⟩ := hrel
    by_cases h1 : k < x
    · have i1 : (k : Int) < (x : Int) := by omega
      have hb : 0 ≤ P ∧ P ≤ 1073741824 := by
        rw [HP.out]
        exact ⟨Int.le_of_lt (Int.pow_pos (by decide)), pow8_le (show k ≤ 10 by omega)⟩
      obtain ⟨b0, b1⟩ := hb
      obtain ⟨Q, hQ⟩ : ∃ Q, P * 8 = Q := ⟨_, rfl⟩
      have HQ : Hid (Q = 8 ^ (k + 1)) := by show _ = _; rw [← hQ, HP.out, Int.pow_succ]
      have hw : IntKind.i64.wrap (P * 8) = Q := by rw [IntKind.wrap_i64]; omega
      clear hQ
      go_wp2
      go_roundw
      case rel => exact ⟨k + 1, Q, by omega, by go_num, (by first | rfl | simp), HQ, by first | rfl | trivial⟩
      case measure => first | (simp [intOf]; done) | (simp [intOf]; omega)
    · obtain rfl : k = x := by omega
      go_wp2
      go_ret
      exact ⟨ret_int HP.out, rfl⟩
theorem up_is {x : Int} {n : Nat} {X : Nat → Int} {K : Nat → Nat} {V : Nat → Nat → Int} {m : Nat} {E : Nat → Int} {r : Int} (h : UpR x n X K V m E r) : chanceV x n X K V m E ≤ r ∧ (chanceV x n X K V m E < 0 → r = -1) := by
  unfold chanceV
  cases e : eigB x n X K V m E
  · have := h.2 e
    subst this
    exact ⟨by simp, fun _ => rfl⟩
  · obtain ⟨k, W, g, rfl⟩ := h.1 e
    obtain ⟨ht, rfl, hE⟩ := eig_yes e
    obtain ⟨⟨x0, x1⟩, -, -⟩ := tree_yes ht
    rw [if_pos rfl, Int.toNat_natCast]
    have q := cha_up hE (show m ≤ 10 by omega) g
    have q0 := (cha_top (n := n) (X := X) (K := K) (V := V) hE (show m ≤ 10 by omega)).1
    exact ⟨q, fun z => by omega⟩
theorem wt_is {m n : Nat} {X : Nat → Int} {K : Nat → Nat} {V : Nat → Nat → Int} {E : Nat → Int} (h : eigB (m : Int) n X K V m E = true) {i : Nat} (hi : i < m) : ∃ C W N, chanceV (m : Int) n X K V m E = C ∧ weightV (m : Int) n X K V m E (i : Int) = W ∧ chanceV (m : Int) n X K V m (setE E i 0) = N ∧ 8 * C = E i * W + 8 * N ∧ 0 ≤ C ∧ C ≤ 1099511627776 ∧ 0 ≤ N ∧ N ≤ 1099511627776 ∧ C ≤ 8 ^ m := by
  obtain ⟨ht, -, hE⟩ := eig_yes h
  obtain ⟨⟨x0, x1⟩, -, -⟩ := tree_yes ht
  have hm : m ≤ 10 := by omega
  refine ⟨_, _, _, rfl, rfl, rfl, ?_⟩
  have e1 : chanceV (m : Int) n X K V m E = chaV m n X K V E (2 ^ m) := by unfold chanceV; rw [if_pos h, Int.toNat_natCast]
  have e2 : weightV (m : Int) n X K V m E (i : Int) = chaV m n X K V (setE E i 8) (2 ^ m) - chaV m n X K V (setE E i 0) (2 ^ m) := by
    have hq : inB 0 ((m : Int) - 1) (i : Int) = true := decide_eq_true ⟨by omega, by omega⟩
    unfold weightV wtB; rw [h, hq, Int.toNat_natCast, Int.toNat_natCast]; rfl
  rw [e1, e2, chance_set h i 0 (by decide) (by decide)]
  have c1 := cha_top (n := n) (X := X) (K := K) (V := V) hE hm
  have c0 := cha_top (n := n) (X := X) (K := K) (V := V) (set_in (q := i) (v := 0) hE (by decide) (by decide)) hm
  exact ⟨cha_lin hi _, c1.1, c1.2, c0.1, c0.2, cha_whole hE⟩
set_option maxHeartbeats 400000 in
theorem fchs_far (w : World) (s : Option Addr) (n c : Nat) (h : (1048576 : Int) < n) :
    Calls Try.prog 5 #[.slice s n c] w fun e w' => e = .returned (.bool true) ∧ Below w.heap.size w w' := by
  go_enter Try.func5, Try.ntmps5
  go_wp2_with fail
  refine (big_yes _ _ _ _ h).mono ?_
  rintro e w1 ⟨rfl, rfl⟩
  go_wp2
  go_ret
  exact ⟨rfl, Below.refl _ _⟩
set_option maxRecDepth 20000 in
set_option maxHeartbeats 16000000 in
theorem fchs_near (w : World) (s : Option Addr) (n c : Nat) (hn : (n : Int) ≤ 1048576) (HC8 : Hid (Code8 w s n)) :
    Calls Try.prog 5 #[.slice s n c] w fun e w' => e = .returned (.bool true) ∧ Below w.heap.size w w' := by
  go_enter Try.func5, Try.ntmps5
  go_wp2_with fail
  refine (big_no _ _ _ _ hn).mono ?_
  rintro e w1 ⟨rfl, rfl⟩
  rename World => w
  go_wp2_with fail
  refine (drawChance_any _ _ _ _ HC8).mono ?_
  rintro e w2 h2
  unfold DchPost at h2
  obtain ⟨x, t, m, cap, X, K, V, t2, l2, c2, U2, rfl, l13, hrow, hset, B2⟩ := h2
  have HG2 : Hid (RowGat w2 t m X K V) := hrow
  have HU2 : Hid (RowI w2 t2 l2 U2) := hset
  have HB2 : Hid (Below w.heap.size w w2) := B2
  clear hrow hset B2 HC8 hn
  go_upto_region 4 with fail
  obtain ⟨w3, hw3⟩ : ∃ z, z = w2.alloc (.cells #[.int .i64 x, .slice t m cap] 26) := ⟨_, rfl⟩
  rw [← hw3]
  have b3 : Below w2.heap.size w2 w3 := by rw [hw3]; exact below0 _ _
  obtain ⟨p, hp⟩ : ∃ z, z = w2.heap.size := ⟨_, rfl⟩
  have HP3 : Hid (Blk w3 p [.int .i64 x, .slice t m cap]) := by show Blk _ _ _; rw [hw3, hp]; exact Blk.new w2 #[.int .i64 x, .slice t m cap] 26
  have HG3 : Hid (RowGat w3 t m X K V) := HG2.out.below b3
  have HU3 : Hid (RowI w3 t2 l2 U2) := HU2.out.below b3
  have HB3 : Hid (Below w.heap.size w w3) := HB2.out.trans (b3.mono HB2.out.size)
  try rw [← hp]
  clear hw3 b3 hp HG2 HU2 HB2
  have p0 := HP3.out.2.2 0 _ rfl
  have p1 := HP3.out.2.2 1 _ rfl
  have pz := HP3.out.1
  obtain ⟨C, hC⟩ : ∃ C, chanceV x m X K V l2 U2 = C := ⟨_, rfl⟩
  have HC : Hid (chanceV x m X K V l2 U2 = C) := hC
  clear hC
  go_wp2_with fail
  refine (implChance_any x t m cap X K V t2 l2 c2 U2 _ (by omega) HG3 HU3).mono ?_
  rintro e w4 ⟨rfl, h4⟩
  rw [HC.out]
  clear p0 p1 pz
  have HP4 : Hid (Blk w4 p [.int .i64 x, .slice t m cap]) := HP3.out.below h4
  have HG4 : Hid (RowGat w4 t m X K V) := HG3.out.below h4
  have HU4 : Hid (RowI w4 t2 l2 U2) := HU3.out.below h4
  have HB4 : Hid (Below w.heap.size w w4) := HB3.out.trans (h4.mono HB3.out.size)
  clear h4 HP3 HG3 HU3 HB3
  have p0 := HP4.out.2.2 0 _ rfl
  have p1 := HP4.out.2.2 1 _ rfl
  have pz := HP4.out.1
  go_wp2_with fail
  refine (specChance_any x t m cap X K V t2 l2 c2 U2 _ (by omega) HG4 HU4).mono ?_
  rintro e w5 ⟨rfl, h5⟩
  rw [HC.out]
  clear p0 p1 pz
  have HP5 : Hid (Blk w5 p [.int .i64 x, .slice t m cap]) := HP4.out.below h5
  have HG5 : Hid (RowGat w5 t m X K V) := HG4.out.below h5
  have HU5 : Hid (RowI w5 t2 l2 U2) := HU4.out.below h5
  have HB5 : Hid (Below w.heap.size w w5) := HB4.out.trans (h5.mono HB4.out.size)
  clear h5 HP4 HG4 HU4 HB4
  have p0 := HP5.out.2.2 0 _ rfl
  have p1 := HP5.out.2.2 1 _ rfl
  have pz := HP5.out.1
  by_cases hc0 : C < 0
  case pos =>
    go_wp2_with fail
    refine (implUpper_any x t m cap X K V t2 l2 c2 U2 _ (by omega) HG5 HU5).mono ?_
    rintro e w6 ⟨r, rfl, hr, h6⟩
    obtain rfl : r = -1 := (up_is hr).2 (by rw [HC.out]; exact hc0)
    have HB6 : Hid (Below w.heap.size w w6) := HB5.out.trans (h6.mono HB5.out.size)
    clear h6 hr
    go_wp2
    go_ret
    exact ⟨rfl, HB6.out⟩
  have he : eigB x m X K V l2 U2 = true := by
    cases q : eigB x m X K V l2 U2
    · have := HC.out
      unfold chanceV at this
      rw [q] at this
      simp at this
      omega
    · rfl
  obtain ⟨ht, hlx, hE⟩ := eig_yes he
  obtain ⟨⟨x0, x1⟩, -, -⟩ := tree_yes ht
  subst hlx
  have HE : Hid (eigB (l2 : Int) m X K V l2 U2 = true) := he
  have H8 : Hid (∀ i, i < l2 → 0 ≤ U2 i ∧ U2 i ≤ 8) := hE
  have l10 : l2 ≤ 10 := by omega
  clear he ht hE
  go_wp2_with fail
  refine (implUpper_any (l2 : Int) t m cap X K V t2 l2 c2 U2 _ (by omega) HG5 HU5).mono ?_
  rintro e w6 ⟨r, rfl, hr, h6⟩
  have hrC : C ≤ r := by have q := (up_is hr).1; rw [HC.out] at q; exact q
  have hrC2 : decide (r < C) = false := decide_eq_false (by omega)
  clear hr p0 p1 pz
  have HP6 : Hid (Blk w6 p [.int .i64 (l2 : Int), .slice t m cap]) := HP5.out.below h6
  have HG6 : Hid (RowGat w6 t m X K V) := HG5.out.below h6
  have HU6 : Hid (RowI w6 t2 l2 U2) := HU5.out.below h6
  have HB6 : Hid (Below w.heap.size w w6) := HB5.out.trans (h6.mono HB5.out.size)
  clear h6 HP5 HG5 HU5 HB5
  have p0 := HP6.out.2.2 0 _ rfl
  have p1 := HP6.out.2.2 1 _ rfl
  have pz := HP6.out.1
  obtain ⟨P8, hP8⟩ : ∃ P : Int, (8 : Int) ^ l2 = P := ⟨_, rfl⟩
  have hCP : C ≤ P8 := by
    obtain ⟨C', W', N', q1, -, -, -, -, -, -, -, q2⟩ := wt_is HE.out (show 0 < l2 by omega)
    rw [HC.out] at q1
    rw [← hP8, q1]; exact q2
  have hCP2 : decide (P8 < C) = false := decide_eq_false (by omega)
  have HP8 : Hid ((8 : Int) ^ l2 = P8) := hP8
  clear hP8
  go_wp2_with fail
  refine (power8_any l2 l10 _).mono ?_
  rintro e w6 ⟨rfl, rfl⟩
  rename World => w6
  rw [HP8.out]
  clear p0 p1 pz
  go_wp2_with fail
  go_loopw [6] (fun i wx => ∃ (k : Nat), k ≤ l2 ∧ i = .int .i64 k ∧ Hid (Below w6.heap.size w6 wx)) (fun i _ => l2 - (intOf i).toNat)
  case atStart => exact ⟨0, by omega, rfl, Below.refl _ _⟩
  case round =>
    obtain ⟨i, hi, rfl, HAW⟩ := hrel
    rename World => wa
    have HAP : Hid (Blk wa p [.int .i64 (l2 : Int), .slice t m cap]) := HP6.out.below HAW.out
    have HAU : Hid (RowI wa t2 l2 U2) := HU6.out.below HAW.out
    have p0 := HAP.out.2.2 0 _ rfl
    have p1 := HAP.out.2.2 1 _ rfl
    have pz := HAP.out.1
    by_cases h1 : i < l2
    case neg =>
      obtain rfl : i = l2 := by omega
      have HBF : Hid (Below w.heap.size w wa) := HB6.out.trans (HAW.out.mono HB6.out.size)
      go_wp2
      go_ret
      exact ⟨rfl, HBF.out⟩
    case pos =>
      have i1 : (i : Int) < (l2 : Int) := by omega
      obtain ⟨C', Wg, N, q1, q2, q3, q4, q5, q6, q7, q8, -⟩ := wt_is HE.out h1
      obtain rfl : C' = C := by rw [← q1]; exact HC.out
      obtain ⟨u0, u8⟩ := H8.out i h1
      have HWg : Hid (weightV (l2 : Int) m X K V l2 U2 (i : Int) = Wg) := q2
      have HN : Hid (chanceV (l2 : Int) m X K V l2 (setE U2 i 0) = N) := q3
      obtain ⟨ei, hei⟩ : ∃ z, U2 i = z := ⟨_, rfl⟩
      rw [hei] at q4 u0 u8
      obtain ⟨EW, hEW⟩ : ∃ z, ei * Wg = z := ⟨_, rfl⟩
      obtain ⟨C8, hC8⟩ : ∃ z, 8 * C' = z := ⟨_, rfl⟩
      obtain ⟨N8, hN8⟩ : ∃ z, 8 * N = z := ⟨_, rfl⟩
      have qs : C8 = EW + N8 := by rw [← hC8, ← hEW, ← hN8]; exact q4
      have z1 : 0 ≤ C8 ∧ C8 ≤ 8796093022208 := by omega
      have z2 : 0 ≤ N8 ∧ N8 ≤ 8796093022208 := by omega
      have m1 : IntKind.i64.wrap (8 * C') = C8 := by rw [hC8, IntKind.wrap_i64]; omega
      have m2 : IntKind.i64.wrap (ei * Wg) = EW := by rw [hEW, IntKind.wrap_i64]; omega
      have m3 : IntKind.i64.wrap (8 * N) = N8 := by rw [hN8, IntKind.wrap_i64]; omega
      have m4 : IntKind.i64.wrap (EW + N8) = C8 := by rw [← qs, IntKind.wrap_i64]; omega
      obtain ⟨eb, eo, rfl, zeb, ceb⟩ := HAU.out i h1
      rw [hei] at ceb
      clear q1 q2 q3 q4 hEW hC8 hN8 qs z1 z2 u0 u8 q5 q6 q7 q8 zeb ceb
      have HL0 : Hid (RowI wa (some ⟨eb, eo, none⟩) l2 U2) := HAU.out
      go_upto_region 15 with (first | (refine list_clone _ ⟨eb, eo, none⟩ l2 c2 U2 _ _ (by rfl) (by rfl) (by rfl) (by rfl) (by first | rfl | simp) (by omega) HL0.out ?_; intro s0' k0 wb O0 hc0))
      obtain ⟨g0, rfl, hg0, zg0, cq0, fq0⟩ := O0 i h1
      have HO0 : Hid (OwnI wa.heap.size wb (some ⟨g0, 0, none⟩) l2 U2) := O0
      have HBW : Hid (Below w6.heap.size w6 wb) := HAW.out.trans (hc0.mono HAW.out.size)
      have HZ : Hid (w6.heap.size ≤ g0) := Nat.le_trans HAW.out.size hg0
      have hzb := hc0.size
      clear O0 hc0 HL0 p0 p1 pz HAP
      go_upto_region 16 with fail
      obtain ⟨wc, hw⟩ : ∃ y, y = wb.setCell ⟨g0, i, none⟩ (.int .i64 0) := ⟨_, rfl⟩
      rw [← hw]
      have HCL : Hid (RowI wc (some ⟨g0, 0, none⟩) l2 (setE U2 i 0)) := by rw [hw]; exact (own_set HO0.out h1).row
      have HCW : Hid (Below w6.heap.size w6 wc) := by rw [hw]; exact set_belowW HBW.out HZ.out (HBW.out.size)
      clear hw cq0 fq0 HO0 zg0 hg0 HBW HZ HAU hzb
      have HCP : Hid (Blk wc p [.int .i64 (l2 : Int), .slice t m cap]) := HP6.out.below HCW.out
      have HCU : Hid (RowI wc (some ⟨eb, eo, none⟩) l2 U2) := HU6.out.below HCW.out
      have HCG : Hid (RowGat wc t m X K V) := HG6.out.below HCW.out
      have HCX : Hid (wc.cell? ⟨eb, eo + i, none⟩ = some (.int .i64 ei) ∧ eb < wc.heap.size) := by
        obtain ⟨b_, o_, e_, l_, c_⟩ := HCU.out i h1
        cases e_
        rw [hei] at c_
        exact ⟨c_, l_⟩
      clear hei
      refine wp_region_held_drew (S := fun w' => w'.cell? ⟨p, 0, none⟩ = some (.int .i64 (l2 : Int)) ∧ w'.cell? ⟨p, 1, none⟩ = some (.slice t m cap) ∧ p < w'.heap.size ∧ w'.cell? ⟨eb, eo + i, none⟩ = some (.int .i64 ei) ∧ eb < w'.heap.size) (by kernel_rfl) ?_ (fun hHeld => ?_)
      · exact ⟨HCP.out.2.2 0 _ rfl, HCP.out.2.2 1 _ rfl, HCP.out.1, HCX.out.1, HCX.out.2⟩
      obtain ⟨v0, hv0⟩ : ∃ z, z = wc.drew := ⟨_, rfl⟩
      try rw [← hv0] at hHeld
      rw [← hv0]
      have bv0 : Below wc.heap.size wc v0 := by rw [hv0]; exact Below.drew (Below.refl _ _)
      clear hv0
      have HP0 : Hid (Blk v0 p [.int .i64 (l2 : Int), .slice t m cap]) := HCP.out.below bv0
      have HG0 : Hid (RowGat v0 t m X K V) := HCG.out.below bv0
      have HU0 : Hid (RowI v0 (some ⟨eb, eo, none⟩) l2 U2) := HCU.out.below bv0
      have HL0 : Hid (RowI v0 (some ⟨g0, 0, none⟩) l2 (setE U2 i 0)) := HCL.out.below bv0
      have HX0 : Hid (v0.cell? ⟨eb, eo + i, none⟩ = some (.int .i64 ei) ∧ eb < v0.heap.size) := ⟨(bv0.cell (p := ⟨eb, eo + i, none⟩) HCX.out.2).trans HCX.out.1, Nat.lt_of_lt_of_le HCX.out.2 bv0.size⟩
      have HW0 : Hid (Below w6.heap.size w6 v0) := HCW.out.trans (bv0.mono HCW.out.size)
      have HV : Hid (Below v0.heap.size v0 v0) := Below.refl _ _
      clear bv0 HCP HCG HCU HCL HCX HCW
      refine wpAnyH_take (i := 0) (v := .int .i64 C') rfl (by kernel_rfl) (by kernel_rfl) (by kernel_rfl) (fun _ _ _ h => h) (Or.inl ⟨by kernel_rfl, ?_⟩) hHeld ?_
      · intro w' hSw
        obtain ⟨hc0, hc1, hz1, hc2, hz2⟩ := hSw
        first | (go_simp; done) | (go_simp; with_reducible rfl) | (go_simp; rw [IntKind.wrap_i64]; omega) | (go_simp; omega)
      simp only [Act.put, List.setIfInBounds_toArray, List.set_cons_zero, List.set_cons_succ]
      refine wpAnyH_take (i := 1) (v := .int .i64 C8) rfl (by kernel_rfl) (by kernel_rfl) (by kernel_rfl) (fun _ _ _ h => h) (Or.inl ⟨by kernel_rfl, ?_⟩) hHeld ?_
      · intro w' hSw
        obtain ⟨hc0, hc1, hz1, hc2, hz2⟩ := hSw
        first | (go_simp; done) | (go_simp; with_reducible rfl) | (go_simp; rw [IntKind.wrap_i64]; omega) | (go_simp; omega)
      simp only [Act.put, List.setIfInBounds_toArray, List.set_cons_zero, List.set_cons_succ]
      refine wpAnyH_take (i := 2) (v := .slice (some ⟨eb, eo, none⟩) l2 c2) rfl (by kernel_rfl) (by kernel_rfl) (by kernel_rfl) (fun _ _ _ h => h) (Or.inl ⟨by kernel_rfl, ?_⟩) hHeld ?_
      · intro w' hSw
        obtain ⟨hc0, hc1, hz1, hc2, hz2⟩ := hSw
        first | (go_simp; done) | (go_simp; with_reducible rfl) | (go_simp; rw [IntKind.wrap_i64]; omega) | (go_simp; omega)
      simp only [Act.put, List.setIfInBounds_toArray, List.set_cons_zero, List.set_cons_succ]
      refine wpAnyH_take (i := 3) (v := .int .i64 (i : Int)) rfl (by kernel_rfl) (by kernel_rfl) (by kernel_rfl) (fun _ _ _ h => h) (Or.inl ⟨by kernel_rfl, ?_⟩) hHeld ?_
      · intro w' hSw
        obtain ⟨hc0, hc1, hz1, hc2, hz2⟩ := hSw
        first | (go_simp; done) | (go_simp; with_reducible rfl) | (go_simp; rw [IntKind.wrap_i64]; omega) | (go_simp; omega)
      simp only [Act.put, List.setIfInBounds_toArray, List.set_cons_zero, List.set_cons_succ]
      refine wpAnyH_take (i := 4) (v := .pointer (some ⟨eb, eo + i, none⟩)) rfl (by kernel_rfl) (by kernel_rfl) (by kernel_rfl) (fun _ _ _ h => h) (Or.inl ⟨by kernel_rfl, ?_⟩) hHeld ?_
      · intro w' hSw
        obtain ⟨hc0, hc1, hz1, hc2, hz2⟩ := hSw
        first | (go_simp; done) | (go_simp; with_reducible rfl) | (go_simp; rw [IntKind.wrap_i64]; omega) | (go_simp; omega)
      simp only [Act.put, List.setIfInBounds_toArray, List.set_cons_zero, List.set_cons_succ]
      refine wpAnyH_take (i := 5) (v := .int .i64 ei) rfl (by kernel_rfl) (by kernel_rfl) (by kernel_rfl) (fun _ _ _ h => h) (Or.inl ⟨by kernel_rfl, ?_⟩) hHeld ?_
      · intro w' hSw
        obtain ⟨hc0, hc1, hz1, hc2, hz2⟩ := hSw
        first | (go_simp; done) | (go_simp; with_reducible rfl) | (go_simp; rw [IntKind.wrap_i64]; omega) | (go_simp; omega)
      simp only [Act.put, List.setIfInBounds_toArray, List.set_cons_zero, List.set_cons_succ]
      refine wpAnyH_take (i := 6) (v := .agg #[.int .i64 (l2 : Int), .slice t m cap]) rfl (by kernel_rfl) (by kernel_rfl) (by kernel_rfl) (fun _ _ _ h => h) (Or.inl ⟨by kernel_rfl, ?_⟩) hHeld ?_
      · intro w' hSw
        obtain ⟨hc0, hc1, hz1, hc2, hz2⟩ := hSw
        first | (go_simp; done) | (go_simp; with_reducible rfl) | (go_simp; rw [IntKind.wrap_i64]; omega) | (go_simp; omega)
      simp only [Act.put, List.setIfInBounds_toArray, List.set_cons_zero, List.set_cons_succ]
      refine wpAnyH_take (i := 7) (v := .slice (some ⟨eb, eo, none⟩) l2 c2) rfl (by kernel_rfl) (by kernel_rfl) (by kernel_rfl) (fun _ _ _ h => h) (Or.inl ⟨by kernel_rfl, ?_⟩) hHeld ?_
      · intro w' hSw
        obtain ⟨hc0, hc1, hz1, hc2, hz2⟩ := hSw
        first | (go_simp; done) | (go_simp; with_reducible rfl) | (go_simp; rw [IntKind.wrap_i64]; omega) | (go_simp; omega)
      simp only [Act.put, List.setIfInBounds_toArray, List.set_cons_zero, List.set_cons_succ]
      refine wpAnyH_take (i := 8) (v := .int .i64 (i : Int)) rfl (by kernel_rfl) (by kernel_rfl) (by kernel_rfl) (fun _ _ _ h => h) (Or.inl ⟨by kernel_rfl, ?_⟩) hHeld ?_
      · intro w' hSw
        obtain ⟨hc0, hc1, hz1, hc2, hz2⟩ := hSw
        first | (go_simp; done) | (go_simp; with_reducible rfl) | (go_simp; rw [IntKind.wrap_i64]; omega) | (go_simp; omega)
      simp only [Act.put, List.setIfInBounds_toArray, List.set_cons_zero, List.set_cons_succ]
      refine wpAnyH_take (i := 11) (v := .agg #[.int .i64 (l2 : Int), .slice t m cap]) rfl (by kernel_rfl) (by kernel_rfl) (by kernel_rfl) (fun _ _ _ h => h) (Or.inl ⟨by kernel_rfl, ?_⟩) hHeld ?_
      · intro w' hSw
        obtain ⟨hc0, hc1, hz1, hc2, hz2⟩ := hSw
        first | (go_simp; done) | (go_simp; with_reducible rfl) | (go_simp; rw [IntKind.wrap_i64]; omega) | (go_simp; omega)
      simp only [Act.put, List.setIfInBounds_toArray, List.set_cons_zero, List.set_cons_succ]
      refine wpAnyH_take (i := 12) (v := .slice (some ⟨g0, 0, none⟩) l2 k0) rfl (by kernel_rfl) (by kernel_rfl) (by kernel_rfl) (fun _ _ _ h => h) (Or.inl ⟨by kernel_rfl, ?_⟩) hHeld ?_
      · intro w' hSw
        obtain ⟨hc0, hc1, hz1, hc2, hz2⟩ := hSw
        first | (go_simp; done) | (go_simp; with_reducible rfl) | (go_simp; rw [IntKind.wrap_i64]; omega) | (go_simp; omega)
      simp only [Act.put, List.setIfInBounds_toArray, List.set_cons_zero, List.set_cons_succ]
      refine wpAnyH_ready (rs := [9]) (by kernel_rfl) (by simp) ?_
      refine (AllReadyH.cons rfl (fun KK hK => ?_) AllReadyH.nil)
      go_simp
      go_wp2_with (first | (go_at_call 25; refine (implWeight_any (l2 : Int) t m cap X K V (some ⟨eb, eo, none⟩) l2 c2 U2 (i : Int) _ (by omega) (HG0.out.below HV.out) (HU0.out.below HV.out)).mono ?_; rintro e v0_1 ⟨rfl, h8⟩; rw [HWg.out]; replace HV : Hid (Below v0.heap.size v0 v0_1) := HV.out.trans (h8.mono HV.out.size); clear h8))
      refine hK.out _ _ (⟨(HV.out.cell (p := ⟨p, 0, none⟩) HP0.out.1).trans (HP0.out.2.2 0 _ rfl), (HV.out.cell (p := ⟨p, 1, none⟩) HP0.out.1).trans (HP0.out.2.2 1 _ rfl), Nat.lt_of_lt_of_le HP0.out.1 HV.out.size, (HV.out.cell (p := ⟨eb, eo + i, none⟩) HX0.out.2).trans (HX0.out.1), Nat.lt_of_lt_of_le HX0.out.2 HV.out.size⟩) (fun hHeld => ?_)
      clear hK KK
      refine wpAnyH_take (i := 10) (v := .int .i64 EW) rfl (by kernel_rfl) (by kernel_rfl) (by kernel_rfl) (fun _ _ _ h => h) (Or.inl ⟨by kernel_rfl, ?_⟩) hHeld ?_
      · intro w' hSw
        obtain ⟨hc0, hc1, hz1, hc2, hz2⟩ := hSw
        first | (go_simp; done) | (go_simp; with_reducible rfl) | (go_simp; rw [IntKind.wrap_i64]; omega) | (go_simp; omega)
      simp only [Act.put, List.setIfInBounds_toArray, List.set_cons_zero, List.set_cons_succ]
      refine wpAnyH_ready (rs := [13]) (by kernel_rfl) (by simp) ?_
      refine (AllReadyH.cons rfl (fun KK hK => ?_) AllReadyH.nil)
      go_simp
      go_wp2_with (first | (go_at_call 21; refine (implChance_any (l2 : Int) t m cap X K V (some ⟨g0, 0, none⟩) l2 k0 (setE U2 i 0) _ (by omega) (HG0.out.below HV.out) (HL0.out.below HV.out)).mono ?_; rintro e v0_2 ⟨rfl, h8⟩; rw [HN.out]; replace HV : Hid (Below v0.heap.size v0 v0_2) := HV.out.trans (h8.mono HV.out.size); clear h8))
      refine hK.out _ _ (⟨(HV.out.cell (p := ⟨p, 0, none⟩) HP0.out.1).trans (HP0.out.2.2 0 _ rfl), (HV.out.cell (p := ⟨p, 1, none⟩) HP0.out.1).trans (HP0.out.2.2 1 _ rfl), Nat.lt_of_lt_of_le HP0.out.1 HV.out.size, (HV.out.cell (p := ⟨eb, eo + i, none⟩) HX0.out.2).trans (HX0.out.1), Nat.lt_of_lt_of_le HX0.out.2 HV.out.size⟩) (fun hHeld => ?_)
      clear hK KK
      refine wpAnyH_take (i := 14) (v := .int .i64 N8) rfl (by kernel_rfl) (by kernel_rfl) (by kernel_rfl) (fun _ _ _ h => h) (Or.inl ⟨by kernel_rfl, ?_⟩) hHeld ?_
      · intro w' hSw
        obtain ⟨hc0, hc1, hz1, hc2, hz2⟩ := hSw
        first | (go_simp; done) | (go_simp; with_reducible rfl) | (go_simp; rw [IntKind.wrap_i64]; omega) | (go_simp; omega)
      simp only [Act.put, List.setIfInBounds_toArray, List.set_cons_zero, List.set_cons_succ]
      refine wpAnyH_take (i := 15) (v := .int .i64 C8) rfl (by kernel_rfl) (by kernel_rfl) (by kernel_rfl) (fun _ _ _ h => h) (Or.inl ⟨by kernel_rfl, ?_⟩) hHeld ?_
      · intro w' hSw
        obtain ⟨hc0, hc1, hz1, hc2, hz2⟩ := hSw
        first | (go_simp; done) | (go_simp; with_reducible rfl) | (go_simp; rw [IntKind.wrap_i64]; omega) | (go_simp; omega)
      simp only [Act.put, List.setIfInBounds_toArray, List.set_cons_zero, List.set_cons_succ]
      refine wpAnyH_ready (rs := [16]) (by kernel_rfl) (by simp) ?_
      refine AllReadyH.cons rfl (fun KK hK => ?_) AllReadyH.nil
      go_simp
      refine hK.out _ _ hHeld (fun hHeld => ?_)
      clear hK KK
      refine wpAnyH_done (by kernel_rfl) ?_ _
      clear hHeld
      have HWa : Hid (Below w6.heap.size w6 v0_2) := HW0.out.trans (HV.out.mono HW0.out.size)
      clear HV HP0 HG0 HU0 HL0 HX0 HW0
      go_wp2
      go_roundw
      case rel => exact ⟨i + 1, by omega, by go_num, HWa⟩
      case measure => first | (simp [intOf]; done) | (simp [intOf]; omega)
theorem fnChances_walk (w : World) (s : Option Addr) (n c : Nat) (hn : n ≤ 9223372036854775807) (R : Bytes w s n) :
    Calls Try.prog 5 #[.slice s n c] w fun e w' => e = .returned (.bool true) ∧ Below w.heap.size w w' := by
  by_cases h : n ≤ 1048576
  · exact fchs_near w s n c (by omega) (R.code h)
  · exact fchs_far w s n c (by omega)

set_option maxRecDepth 100000 in
theorem fnChances_lifted (os : Os) (started : os.Started) (H : Type) (enc : TypeId × Value → H) :
    ReturnsInHanded {} Try.checked os 5 .any (Rows.fnChancesSpec.pre6 enc Try.prog Try.f5 Rows.fnChancesRow.domain false) (Rows.fnChancesSpec.post enc Try.prog Try.f5 false true false false) := by
  refine returnsInHanded_of_change (C := Try.checked) own started (by kernel_rfl) Try.func5
    (ChangeSpec.witness6 (enc := enc) (C := Try.checked) false ⟨#[], #[.slice none 0 0], []⟩ 8 (by kernel_rfl) (by kernel_rfl) (by kernel_rfl) (by kernel_rfl)) ?_
  intro W base args ds gs before hval0 hW hcnd _
  have hval : ∀ (j : Nat) t v, Try.f5.params[j]? = some t → args[j]? = some v → Value.okWide Try.prog W .any base t v := hval0
  have hW' := hW
  obtain ⟨p, q, hA0, hV, rfl, hfz, hnd⟩ := hW
  have hA : DataW.TrodAll enc Try.prog W 0 (fun _ => true) true Try.f5.params.toList args.toList ds p := hA0
  rw [Try.params5] at hA hval
  obtain ⟨v0, vs0, d0, ds0, p0, q0, hargs, rfl, rfl, h0, r0⟩ := trodAll_cons hA
  obtain ⟨rfl, rfl, rfl⟩ := trodAll_nil r0
  obtain rfl : args = #[v0] := by cases args; simp_all
  obtain ⟨rfl, rfl⟩ := trodVars_none hV
  have k0 := h0
  have lt0 : ∀ x ∈ p0, x.block < W.heap.size := by obtain ⟨m, hm⟩ := k0; exact DataW.trod_lt m _ _ _ hm
  obtain ⟨s0, n0, c0, rfl, m0, R0⟩ := open_code Try.underlying22 Try.underlying5 (by kernel_rfl) (hval 0 22 v0 rfl rfl) h0
  clear hA0 hval0
  refine (fnChances_walk W s0 n0 c0 m0 R0).mono fun e W' ⟨he, bel⟩ => ?_
  subst he
  exact ⟨_, rfl, _, _, _, [], _, [], hW', trodAll_mk1 (shut_bool Try.underlying4 _), (trodAll_cons_mk (Below.trod laidOut (by kernel_rfl) (of_decide_eq_true (by kernel_rfl)) k0 bel lt0) trodAll_mk0), rfl, bel.frame _, fun h => by cases h⟩

theorem fnChances_holds : Rows.FnChancesSaid :=
  OpenClaim.holds_of_wide 5 Try.f5 rfl rfl rfl rfl rfl rfl rfl ⟨rfl, rfl, rfl, rfl, rfl⟩ rfl rfl rfl rfl rfl (by kernel_rfl) Try.func5 (by kernel_rfl)
    (of_decide_eq_true (by kernel_rfl)) (by unfold Func.isWrapper; first | (rw [if_pos (by decide +kernel)]; kernel_rfl) | (rw [if_neg (by decide +kernel)]; exact ⟨rfl, rfl⟩))
    (fun os started H enc _ => fnChances_lifted os started H enc)
#print axioms fnChances_holds
end Go.Proofs.Ytpaiajeigdifcaa
