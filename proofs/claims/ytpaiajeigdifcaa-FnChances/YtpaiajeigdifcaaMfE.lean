/-
What is proved: slices' own stable sort at sets.
-/
import Derived.Test.YtpaiajeigdifcaaMfD
import Derived.Deep.RegionHeldLaw
import Derived.Deep.DeepCutAuto
namespace Go.Proofs.Ytpaiajeigdifcaa
set_option maxRecDepth 40000
open Go.ChangeShapes Go.WideShapes Go.ChangeAt Go.RowKit
set_option linter.unusedVariables false
set_option linter.unusedSimpArgs false

theorem merge_any (B n cp : Nat) (c1 c2 : Value) (Ok : Int → Prop) (Cap : World → Prop) (lt : Int → Int → Prop) (tr : ∀ x y z, lt x y → lt y z → lt x z) (tot : ∀ x y, x < y → ¬ lt y x → lt x y) (hn : n ≤ 1000) (HM : Hid (CmpK Ok Cap lt c1 c2)) (HK : Hid (CapK B Cap)) (d : Nat) : MergeK B n cp c1 c2 Ok Cap lt d := by
  induction d with
  | zero => intro a m b Z w hd h1 h2; omega
  | succ d ih =>
    intro a m b Z w hd h1 h2 h3 D C L R X O
    by_cases q1 : m = a + 1
    · exact merge_one B n cp c1 c2 Ok Cap lt tr tot hn HM HK a m b Z w h1 h2 h3 D C L R X O q1
    · by_cases q2 : b = m + 1
      · exact merge_last B n cp c1 c2 Ok Cap lt tr tot hn HM HK a m b Z w h1 h2 h3 D C L R X O q1 q2
      · by_cases q3 : (a + b) / 2 < m
        · exact merge_hi B n cp c1 c2 Ok Cap lt tr tot hn HM HK d ih a m b Z w h1 h2 h3 D C L R X O hd q1 q2 _ rfl q3
        · exact merge_lo B n cp c1 c2 Ok Cap lt tr tot hn HM HK d ih a m b Z w h1 h2 h3 D C L R X O hd q1 q2 _ rfl (by omega)
theorem dvd_next {t a k : Nat} (ht : 0 < t) (ha : t ∣ a) (hk : t ∣ k) (h : k < a + t) : k = a ∨ k + t ≤ a := by
  obtain ⟨p, rfl⟩ := ha
  obtain ⟨q, rfl⟩ := hk
  have h2 : t * q < t * (p + 1) := by rw [Nat.mul_add]; omega
  have h3 := Nat.lt_of_mul_lt_mul_left h2
  by_cases e : q = p
  · exact Or.inl (by rw [e])
  · refine Or.inr ?_
    have h4 : t * (q + 1) ≤ t * p := Nat.mul_le_mul_left t (by omega)
    rw [Nat.mul_add] at h4
    omega
theorem dvd_split {t a k : Nat} (ht : 0 < t) (ha : t ∣ a) (hk : t ∣ k) : k ≤ a ∨ a + t ≤ k := by
  by_cases h : k < a + t
  · rcases dvd_next ht ha hk h with e | e <;> omega
  · omega
theorem CrossS.same {W W' : Nat → Int} {a e k n : Nat} (h : CrossS W 0 k n) (s : SameS W W' a e) (o : OutS W W' a e) (hk : k ≤ a ∨ e ≤ k) (he : e ≤ n) : CrossS W' 0 k n := fun i j g1 g2 g3 g4 => by
  obtain ⟨i', p1, ei⟩ : ∃ i', i' < k ∧ W' i = W i' := by
    by_cases q : a ≤ i ∧ i < e
    · obtain ⟨x, x1, x2, x3⟩ := s.1 i q.1 q.2
      exact ⟨x, by omega, x3⟩
    · exact ⟨i, g2, o i (by omega)⟩
  obtain ⟨j', p2, p3, ej⟩ : ∃ j', k ≤ j' ∧ j' < n ∧ W' j = W j' := by
    by_cases q : a ≤ j ∧ j < e
    · obtain ⟨x, x1, x2, x3⟩ := s.1 j q.1 q.2
      exact ⟨x, by omega, by omega, x3⟩
    · exact ⟨j, g3, g4, o j (by omega)⟩
  rw [ei, ej]
  exact h i' j' (Nat.zero_le _) p1 p2 p3
def SrtU (lt : Int → Int → Prop) (W : Nat → Int) (n s hi : Nat) : Prop := ∀ k, s ∣ k → k < hi → SortS lt W k (min n (k + s))
def SrtD (lt : Int → Int → Prop) (W : Nat → Int) (n s lo : Nat) : Prop := ∀ k, s ∣ k → lo ≤ k → SortS lt W k (min n (k + s))
def BndU (W : Nat → Int) (n s : Nat) : Prop := ∀ k, s ∣ k → CrossS W 0 k n
def BndD (W : Nat → Int) (n s lo : Nat) : Prop := ∀ k, s ∣ k → lo ≤ k → CrossS W 0 k n
theorem srtU_on {lt : Int → Int → Prop} {W W' : Nat → Int} {n s a e : Nat} (hs : 0 < s) (ha : s ∣ a) (he : e = min n (a + s)) (h : SrtU lt W n s a) (m : Merged lt W W' a e) : SrtU lt W' n s (a + s) := fun k hk g => by
  rcases dvd_next hs ha hk g with q | q
  · subst q; rw [← he]; exact m.1
  · exact (h k hk (by omega)).out m.2.2 (Or.inl (by omega))
theorem same_in {V W W' : Nat → Int} {n a e : Nat} (h : SameS V W 0 n) (s : SameS W W' a e) (o : OutS W W' a e) (h1 : a ≤ e) (h2 : e ≤ n) : SameS V W' 0 n := h.trans (s.sub o (Nat.zero_le _) h2 h1)
/-- While the blocks are sorted one by one. -/
def St1 (Ok : Int → Prop) (lt : Int → Int → Prop) (V W : Nat → Int) (n s a : Nat) : Prop := SrtU lt W n s a ∧ SortS (· < ·) W a n ∧ BndU W n s ∧ SameS V W 0 n ∧ ∀ k, k < n → Ok (W k)
/-- While they are merged two by two. -/
def St2 (Ok : Int → Prop) (lt : Int → Int → Prop) (V W : Nat → Int) (n s a : Nat) : Prop := SrtU lt W n (2 * s) a ∧ SrtD lt W n s a ∧ BndU W n (2 * s) ∧ BndD W n s a ∧ SameS V W 0 n ∧ ∀ k, k < n → Ok (W k)
/-- Between. -/
def StB (Ok : Int → Prop) (lt : Int → Int → Prop) (V W : Nat → Int) (n s : Nat) : Prop := SrtU lt W n s n ∧ BndU W n s ∧ SameS V W 0 n ∧ ∀ k, k < n → Ok (W k)
theorem st1_zero {Ok : Int → Prop} (lt : Int → Int → Prop) {V : Nat → Int} {n : Nat} (s : Nat) (hA : SortS (· < ·) V 0 n) (hO : ∀ k, k < n → Ok (V k)) : St1 Ok lt V V n s 0 := ⟨fun k _ h => by omega, hA, fun k _ i j _ g2 g3 g4 => hA i j (Nat.zero_le _) (by omega) g4, SameS.refl _ _ _, hO⟩
theorem st1_on {Ok : Int → Prop} {lt : Int → Int → Prop} {V W W' : Nat → Int} {n s a e : Nat} (hs : 0 < s) (ha : s ∣ a) (an : a ≤ n) (he : e = min n (a + s)) (h : St1 Ok lt V W n s a) (m : Merged lt W W' a e) : St1 Ok lt V W' n s (a + s) := by
  obtain ⟨p1, p2, p3, p4, p5⟩ := h
  have a1 : a ≤ e := by omega
  have a2 : e ≤ n := by omega
  exact ⟨srtU_on hs ha he p1 m, (p2.part (by omega) (Nat.le_refl _)).out m.2.2 (Or.inr (by omega)), fun k hk => (p3 k hk).same m.2.1 m.2.2 ((dvd_split hs ha hk).imp id (fun q => by omega)) a2, same_in p4 m.2.1 m.2.2 a1 a2, ok_same p5 m.2.1 m.2.2 a2⟩
theorem st1_end {Ok : Int → Prop} {lt : Int → Int → Prop} {V W : Nat → Int} {n s a : Nat} (h : St1 Ok lt V W n s a) (hn : n ≤ a) : StB Ok lt V W n s := ⟨fun k hk g => h.1 k hk (by omega), h.2.2.1, h.2.2.2⟩
theorem st2_zero {Ok : Int → Prop} {lt : Int → Int → Prop} {V W : Nat → Int} {n s : Nat} (h : StB Ok lt V W n s) : St2 Ok lt V W n s 0 := by
  obtain ⟨p1, p2, p3, p4⟩ := h
  refine ⟨fun k _ g => by omega, fun k hk g => ?_, fun k hk => p2 k (Nat.dvd_trans (Nat.dvd_mul_left s 2) hk), fun k hk _ => p2 k hk, p3, p4⟩
  by_cases q : k < n
  · exact p1 k hk q
  · exact SortS.one lt W (by omega)
theorem st2_on {Ok : Int → Prop} {lt : Int → Int → Prop} {V W W' : Nat → Int} {n s a e : Nat} (hs : 0 < s) (ha : 2 * s ∣ a) (an : a ≤ n) (he : e = min n (a + 2 * s)) (h : St2 Ok lt V W n s a) (m : Merged lt W W' a e) : St2 Ok lt V W' n s (a + 2 * s) := by
  obtain ⟨p1, p2, p3, p4, p5, p6⟩ := h
  have a1 : a ≤ e := by omega
  have a2 : e ≤ n := by omega
  exact ⟨srtU_on (by omega) ha he p1 m, fun k hk g => (p2 k hk (by omega)).out m.2.2 (Or.inr (by omega)), fun k hk => (p3 k hk).same m.2.1 m.2.2 ((dvd_split (by omega) ha hk).imp id (fun q => by omega)) a2, fun k hk g => (p4 k hk (by omega)).same m.2.1 m.2.2 (Or.inr (by omega)) a2, same_in p5 m.2.1 m.2.2 a1 a2, ok_same p6 m.2.1 m.2.2 a2⟩
theorem st2_end {Ok : Int → Prop} {lt : Int → Int → Prop} {V W : Nat → Int} {n s a : Nat} (h : St2 Ok lt V W n s a) (hn : n ≤ a) : StB Ok lt V W n (2 * s) := ⟨fun k hk g => h.1 k hk (by omega), h.2.2.1, h.2.2.2.2⟩
theorem stB_end {Ok : Int → Prop} {lt : Int → Int → Prop} {V W : Nat → Int} {n s : Nat} (h : StB Ok lt V W n s) (hn : n ≤ s) : SortS lt W 0 n := by
  by_cases q : 0 < n
  · have := h.1 0 (Nat.dvd_zero _) q
    rwa [Nat.zero_add, Nat.min_eq_left hn] at this
  · exact SortS.one lt W (by omega)
/-- What a merge of two blocks asks. -/
theorem st2_ask {Ok : Int → Prop} {lt : Int → Int → Prop} {V W : Nat → Int} {n s a e : Nat} (ha : 2 * s ∣ a) (he : e = min n (a + 2 * s)) (hm : a + s < e) (h : St2 Ok lt V W n s a) : SortS lt W a (a + s) ∧ SortS lt W (a + s) e ∧ CrossS W a (a + s) e ∧ ∀ k, k < n → Ok (W k) := by
  have sa : s ∣ a := Nat.dvd_trans (Nat.dvd_mul_left s 2) ha
  have sb : s ∣ a + s := Nat.dvd_add sa (Nat.dvd_refl s)
  obtain ⟨p1, p2, p3, p4, p5, p6⟩ := h
  exact ⟨(p2 a sa (Nat.le_refl _)).part (Nat.le_refl _) (by omega), (p2 (a + s) sb (by omega)).part (Nat.le_refl _) (by omega), fun i j g1 g2 g3 g4 => p4 (a + s) sb (by omega) i j (Nat.zero_le _) g2 g3 (by omega), p6⟩
theorem st2_none {Ok : Int → Prop} {lt : Int → Int → Prop} {V W : Nat → Int} {n s a : Nat} (ha : 2 * s ∣ a) (hm : n ≤ a + s) (h : St2 Ok lt V W n s a) : Merged lt W W a n := by
  have sa : s ∣ a := Nat.dvd_trans (Nat.dvd_mul_left s 2) ha
  exact ⟨(h.2.1 a sa (Nat.le_refl _)).part (Nat.le_refl _) (by omega), SameS.refl _ _ _, OutS.refl _ _ _⟩
set_option maxRecDepth 20000 in
set_option maxHeartbeats 8000000 in
theorem stable_any (B n cp : Nat) (c1 c2 : Value) (Ok : Int → Prop) (Cap : World → Prop) (lt : Int → Int → Prop) (tr : ∀ x y z, lt x y → lt y z → lt x z) (tot : ∀ x y, x < y → ¬ lt y x → lt x y) (hn : n ≤ 1000) (HM : Hid (CmpK Ok Cap lt c1 c2)) (HK : Hid (CapK B Cap)) (V : Nat → Int) (w : World) (HD : Hid (DatF w B n V)) (HC : Hid (Cap w)) (HA : Hid (SortS (· < ·) V 0 n)) (HO : Hid (∀ k, k < n → Ok (V k))) :
    Calls Try.prog 102 #[.slice (some ⟨B, 0, none⟩) n cp, .int .i64 (n : Int), .func (.func 82) #[] #[]] w fun e w' => (e = .returned (.tuple #[])) ∧ (∃ W, SortS lt W 0 n ∧ SameS V W 0 n ∧ DatF w' B n W) ∧ Turn (fun q => q = B) w w' := by
  have HC0 : Hid (Cap w) := HC
  have HMM : Hid (∀ d, MergeK B n cp c1 c2 Ok Cap lt d) := merge_any B n cp c1 c2 Ok Cap lt tr tot hn HM HK
  go_enter Try.func102, Try.ntmps102
  go_wp2_with fail
  go_loopw [7, 8] (fun u v wr => ∃ (a : Nat) (W : Nat → Int), a ≤ n ∧ u = .int .i64 a ∧ v = .int .i64 ((a : Int) + 20) ∧ Hid (20 ∣ a) ∧ Hid (St1 Ok lt V W n 20 a) ∧ Hid (DatF wr B n W) ∧ Hid (Turn (fun q => q = B) w wr)) (fun u _ _ => n - (intOf u).toNat)
  case atStart => exact ⟨0, V, Nat.zero_le _, rfl, rfl, Nat.dvd_zero _, st1_zero lt 20 HA.out HO.out, HD, Turn.refl _ _⟩
  case round =>
    clear HD
    obtain ⟨a, W, an, rfl, rfl, Ha, HS, HD, HT⟩ := hrel
    replace HC : Hid (Cap _) := HK.out _ _ HC.out HT.out
    by_cases h : a + 20 ≤ n
    case pos =>
      have k1 : (a : Int) + 20 ≤ (n : Int) := by omega
      obtain ⟨b, hb⟩ : ∃ b : Nat, b = a + 20 := ⟨_, rfl⟩
      have eb : (a : Int) + 20 = (b : Int) := by omega
      have HB : Hid (b = a + 20) := hb
      have b1 : a ≤ b := by omega
      have b2 : b ≤ n := by omega
      have b3 : (b : Int) ≤ (n : Int) := by omega
      clear hb
      go_wp2_with fail
      refine (insertion_any B n cp c1 c2 Ok Cap lt tr tot hn HM HK a b W _ b1 b2 HD HC (HS.out.2.1.part (Nat.le_refl _) b2) HS.out.2.2.2.2).mono ?_
      rintro e w3 ⟨rfl, ⟨X, x1, x2, x3, D3⟩, T3⟩
      have HN : Hid (St1 Ok lt V X n 20 (a + 20)) := st1_on (by omega) Ha.out an (e := b) (by have := HB.out; omega) HS.out ⟨x1, x2, x3⟩
      have HT3 : Hid (Turn (fun q => q = B) w w3) := HT.out.trans T3
      have HD3 : Hid (DatF w3 B n X) := D3
      have Hb2 : Hid (20 ∣ b) := by rw [HB.out]; exact Nat.dvd_add Ha.out (Nat.dvd_refl 20)
      rw [← HB.out] at HN
      clear T3 D3 x1 x2 x3 HD HT HS eb k1
      go_wp2
      go_roundw
      case rel => have hq := HB.out; exact ⟨b, X, by omega, by first | rfl | (congr 1; omega), by first | rfl | (congr 1; omega), Hb2, HN, HD3, HT3⟩
      case measure => have := HB.out; first | (simp [intOf]; done) | (simp [intOf]; omega)
    case neg =>
      have k1 : (n : Int) < (a : Int) + 20 := by omega
      have k2 : decide ((a : Int) + 20 ≤ (n : Int)) = false := decide_eq_false (by omega)
      go_wp2_with fail
      refine (insertion_any B n cp c1 c2 Ok Cap lt tr tot hn HM HK a n W _ an (Nat.le_refl _) HD HC HS.out.2.1 HS.out.2.2.2.2).mono ?_
      rintro e w3 ⟨rfl, ⟨X, x1, x2, x3, D3⟩, T3⟩
      have HN : Hid (StB Ok lt V X n 20) := st1_end (st1_on (by omega) Ha.out an (e := n) (by omega) HS.out ⟨x1, x2, x3⟩) (by omega)
      have HT3 : Hid (Turn (fun q => q = B) w w3) := HT.out.trans T3
      have HD3 : Hid (DatF w3 B n X) := D3
      clear T3 D3 x1 x2 x3 HD HT HS HC Ha k1 k2 h
      go_wp2_with fail
      go_loopw [6] (fun q wr => ∃ (s : Nat) (W : Nat → Int), 0 < s ∧ s ≤ 2000 ∧ q = .int .i64 s ∧ Hid (StB Ok lt V W n s) ∧ Hid (DatF wr B n W) ∧ Hid (Turn (fun q => q = B) w wr)) (fun q _ => n - (intOf q).toNat)
      case atStart => exact ⟨20, X, by omega, by omega, rfl, HN, HD3, HT3⟩
      case round =>
        clear HD3 HN
        obtain ⟨s, W, s0, s1, rfl, HS, HD, HT⟩ := hrel
        by_cases h : s < n
        case neg =>
          have k1 : decide ((s : Int) < (n : Int)) = false := decide_eq_false (by omega)
          have k2 : (n : Int) ≤ (s : Int) := by omega
          have HE : Hid (SortS lt W 0 n) := stB_end HS.out (by omega)
          go_wp2
          go_end0
          exact ⟨rfl, ⟨W, HE.out, HS.out.2.2.1, HD.out⟩, HT.out⟩
        have k1 : (s : Int) < (n : Int) := by omega
        have HS2 : Hid (St2 Ok lt V W n s 0) := st2_zero HS.out
        clear HS
        go_wp2_with fail
        go_loopw [7, 8] (fun u v wr => ∃ (a : Nat) (W : Nat → Int), a ≤ n ∧ u = .int .i64 a ∧ v = .int .i64 ((a : Int) + 2 * (s : Int)) ∧ Hid (2 * s ∣ a) ∧ Hid (St2 Ok lt V W n s a) ∧ Hid (DatF wr B n W) ∧ Hid (Turn (fun q => q = B) w wr)) (fun u _ _ => n - (intOf u).toNat)
        case atStart => exact ⟨0, W, Nat.zero_le _, rfl, by first | rfl | go_num | (congr 1; omega), Nat.dvd_zero _, HS2, HD, HT⟩
        case round =>
          clear HS2 HD HT
          obtain ⟨a, W, an, rfl, rfl, Ha, HS, HD, HT⟩ := hrel
          have HC : Hid (Cap _) := HK.out _ _ HC0.out HT.out
          by_cases h2 : a + 2 * s ≤ n
          case pos =>
            have k2 : (a : Int) + 2 * (s : Int) ≤ (n : Int) := by omega
            obtain ⟨b, hb⟩ : ∃ b : Nat, b = a + 2 * s := ⟨_, rfl⟩
            obtain ⟨m, hm⟩ : ∃ m : Nat, m = a + s := ⟨_, rfl⟩
            have eb : (a : Int) + 2 * (s : Int) = (b : Int) := by omega
            have em : (a : Int) + (s : Int) = (m : Int) := by omega
            have HB : Hid (b = a + 2 * s ∧ m = a + s) := ⟨hb, hm⟩
            have b1 : a < m := by omega
            have b2 : m < b := by omega
            have b3 : b ≤ n := by omega
            have b4 : (b : Int) ≤ (n : Int) := by omega
            have HQ : Hid (SortS lt W a m ∧ SortS lt W m b ∧ CrossS W a m b ∧ ∀ k, k < n → Ok (W k)) := by
              have := st2_ask (e := b) Ha.out (by omega) (by omega) HS.out
              rw [← hm] at this
              exact this
            clear hb hm
            go_wp2_with fail
            refine (HMM.out (b - a) a m b W _ (Nat.le_refl _) b1 b2 b3 HD.out HC.out HQ.out.1 HQ.out.2.1 HQ.out.2.2.1 HQ.out.2.2.2).mono ?_
            rintro e w4 ⟨rfl, ⟨X4, M4, D4⟩, T4⟩
            have HN4 : Hid (St2 Ok lt V X4 n s (a + 2 * s)) := st2_on s0 Ha.out an (e := b) (by have := HB.out.1; omega) HS.out M4
            have HT4 : Hid (Turn (fun q => q = B) w w4) := HT.out.trans T4
            have HD4 : Hid (DatF w4 B n X4) := D4
            have Hb2 : Hid (2 * s ∣ b) := by rw [HB.out.1]; exact Nat.dvd_add Ha.out (Nat.dvd_refl _)
            rw [← HB.out.1] at HN4
            clear T4 D4 M4 HD HT HS HQ em eb k2
            go_wp2
            go_roundw
            case rel => have hq := HB.out.1; exact ⟨b, X4, by omega, by first | rfl | (congr 1; omega), by first | rfl | (congr 1; omega), Hb2, HN4, HD4, HT4⟩
            case measure => have := HB.out.1; first | (simp [intOf]; done) | (simp [intOf]; omega)
          case neg =>
            have k2 : decide ((a : Int) + 2 * (s : Int) ≤ (n : Int)) = false := decide_eq_false (by omega)
            have k3 : (n : Int) < (a : Int) + 2 * (s : Int) := by omega
            obtain ⟨m, hm⟩ : ∃ m : Nat, m = a + s := ⟨_, rfl⟩
            have em : (a : Int) + (s : Int) = (m : Int) := by omega
            have s2 : 2 * s ≤ 2000 := by omega
            by_cases h3 : m < n
            case pos =>
              have k4 : (m : Int) < (n : Int) := by omega
              have b1 : a < m := by omega
              have HQ : Hid (SortS lt W a m ∧ SortS lt W m n ∧ CrossS W a m n ∧ ∀ k, k < n → Ok (W k)) := by
                have := st2_ask (e := n) Ha.out (by omega) (by omega) HS.out
                rw [← hm] at this
                exact this
              clear hm
              go_wp2_with fail
              refine (HMM.out (n - a) a m n W _ (Nat.le_refl _) b1 h3 (Nat.le_refl _) HD.out HC.out HQ.out.1 HQ.out.2.1 HQ.out.2.2.1 HQ.out.2.2.2).mono ?_
              rintro e w4 ⟨rfl, ⟨X4, M4, D4⟩, T4⟩
              have HN4 : Hid (StB Ok lt V X4 n (2 * s)) := st2_end (st2_on s0 Ha.out an (e := n) (by omega) HS.out M4) (by omega)
              have HT4 : Hid (Turn (fun q => q = B) w w4) := HT.out.trans T4
              have HD4 : Hid (DatF w4 B n X4) := D4
              clear T4 D4 M4 HD HT HS HQ
              go_wp2
              go_roundw
              case rel => exact ⟨2 * s, X4, by omega, s2, by first | go_num | (congr 1; omega), HN4, HD4, HT4⟩
              case measure => first | (simp [intOf]; done) | (simp [intOf]; omega)
            case neg =>
              have k4 : decide ((m : Int) < (n : Int)) = false := decide_eq_false (by omega)
              have k5 : (n : Int) ≤ (m : Int) := by omega
              have HN4 : Hid (StB Ok lt V W n (2 * s)) := st2_end (st2_on s0 Ha.out an (e := n) (by omega) HS.out (st2_none Ha.out (by omega) HS.out)) (by omega)
              clear hm HS
              go_wp2
              go_roundw
              case rel => exact ⟨2 * s, W, by omega, s2, by first | go_num | (congr 1; omega), HN4, HD, HT⟩
              case measure => first | (simp [intOf]; done) | (simp [intOf]; omega)
end Go.Proofs.Ytpaiajeigdifcaa
