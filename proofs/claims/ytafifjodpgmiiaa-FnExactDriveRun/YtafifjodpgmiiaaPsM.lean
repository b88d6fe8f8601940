/-
What is proved: a list of pushes marked: nothing turns but its own blocks.
-/
import Derived.Test.YtafifjodpgmiiaaPsR
import Derived.Test.YtafifjodpgmiiaaOdrM
namespace Go.Proofs.Ytafifjodpgmiiaa
set_option maxRecDepth 40000
open Go.ChangeShapes Go.WideShapes Go.ChangeAt Go.RowKit
set_option linter.unusedVariables false
set_option linter.unusedSimpArgs false

/-- Nothing turns but blocks from b up to B. -/
def Ranged (b B : Nat) (w w' : World) : Prop := w'.os = w.os ∧ w'.tape = w.tape ∧ w'.output = w.output ∧ w.heap.size ≤ w'.heap.size ∧ ∀ k, k < w.heap.size → (k < b ∨ B ≤ k) → w'.heap[k]? = w.heap[k]?
theorem Ranged.refl (b B : Nat) (w : World) : Ranged b B w w := ⟨rfl, rfl, rfl, Nat.le_refl _, fun _ _ _ => rfl⟩
theorem Ranged.trans {b B : Nat} {w w1 w2 : World} (h : Ranged b B w w1) (g : Ranged b B w1 w2) : Ranged b B w w2 := by
  obtain ⟨h1, h2, h3, h4, h5⟩ := h
  obtain ⟨g1, g2, g3, g4, g5⟩ := g
  exact ⟨g1.trans h1, g2.trans h2, g3.trans h3, Nat.le_trans h4 g4, fun k hk hn => (g5 k (Nat.lt_of_lt_of_le hk h4) hn).trans (h5 k hk hn)⟩
theorem Ranged.of {b B r : Nat} {w w' : World} (h : Beside r w w') (h1 : b ≤ r) (h2 : r < B) : Ranged b B w w' := ⟨h.1, h.2.1, h.2.2.1, h.2.2.2.1, fun k hk hn => h.2.2.2.2 k hk (by omega)⟩
theorem Ranged.below {b B : Nat} {w w' : World} (h : Ranged b B w w') (hb : b ≤ w.heap.size) : Below b w w' := ⟨h.1, h.2.1, h.2.2.1, h.2.2.2.1, fun k hk => h.2.2.2.2 k (by omega) (Or.inl hk)⟩
theorem Ranged.cell {b B : Nat} {w w' : World} (h : Ranged b B w w') {p : Addr} (hp : p.block < w.heap.size) (hn : p.block < b ∨ B ≤ p.block) : w'.cell? p = w.cell? p := World.cell?_of_block (h.2.2.2.2 p.block hp hn)
theorem Ranged.frozen {b B : Nat} {w w' : World} (h : Ranged b B w w') {p : Addr} (hp : p.block < w.heap.size) (hn : p.block < b ∨ B ≤ p.block) : w'.frozen? p = w.frozen? p := World.frozen?_of_block (h.2.2.2.2 p.block hp hn)
theorem OwnI.ranged {base b B : Nat} {w w' : World} {s : Option Addr} {n : Nat} {V : Nat → Int} (h : OwnI base w s n V) (hr : Ranged b B w w') (hb : B ≤ base) : OwnI base w' s n V := fun j hj => by
  obtain ⟨g, e, h1, h2, h3, h4⟩ := h j hj
  exact ⟨g, e, h1, Nat.lt_of_lt_of_le h2 hr.2.2.2.1, (hr.cell (p := ⟨g, j, none⟩) h2 (Or.inr (by simp only; omega))).trans h3, (hr.frozen (p := ⟨g, j, none⟩) h2 (Or.inr (by simp only; omega))).trans h4⟩
def PushK (b B : Nat) (w : World) (n : Nat) (G0 K0 : Nat → Nat) : Prop := b < w.heap.size ∧ b < B ∧ (∀ o, w.frozen? ⟨b, o, none⟩ = false) ∧ ∀ j, j < n → w.cell? ⟨b, j * 3, none⟩ = some (.slice (some ⟨G0 j, 0, none⟩) (K0 j) (K0 j)) ∧ (w.cell? ⟨b, j * 3 + 1, none⟩).isSome = true ∧ (w.cell? ⟨b, j * 3 + 2, none⟩).isSome = true ∧ b < G0 j ∧ G0 j < B ∧ G0 j < w.heap.size ∧ ∃ U, OwnI (G0 j) w (some ⟨G0 j, 0, none⟩) (K0 j * 2) U
theorem PushK.below {b B n : Nat} {w w' : World} {G0 K0 : Nat → Nat} (h : PushK b B w n G0 K0) (hb : Below w.heap.size w w') : PushK b B w' n G0 K0 := by
  obtain ⟨h1, h2, h3, h4⟩ := h
  refine ⟨Nat.lt_of_lt_of_le h1 hb.size, h2, fun o => (hb.frozen (p := ⟨b, o, none⟩) h1).trans (h3 o), fun j hj => ?_⟩
  obtain ⟨c0, c1, c2, p0, q0, r0, U0, x0⟩ := h4 j hj
  exact ⟨(hb.cell (p := ⟨b, j * 3, none⟩) h1).trans c0, by rw [hb.cell (p := ⟨b, j * 3 + 1, none⟩) h1]; exact c1, by rw [hb.cell (p := ⟨b, j * 3 + 2, none⟩) h1]; exact c2, p0, q0, Nat.lt_of_lt_of_le r0 hb.size, U0, x0.below hb⟩
theorem PushK.set {b B n o : Nat} {w : World} {u : Value} {G0 K0 : Nat → Nat} (h : PushK b B w n G0 K0) (ho : ∀ j, j < n → o ≠ j * 3) : PushK b B (w.setCell ⟨b, o, none⟩ u) n G0 K0 := by
  obtain ⟨h1, h2, h3, h4⟩ := h
  refine ⟨by simpa using h1, h2, fun o => by simp [go_sem, h3], fun j hj => ?_⟩
  obtain ⟨c0, c1, c2, p0, q0, r0, U0, x0⟩ := h4 j hj
  have n0 := ho j hj
  have d0 := Ne.symm n0
  refine ⟨?_, ?_, ?_, p0, q0, by simpa using r0, U0, Ps_own_set x0 (by omega)⟩
  · simp [go_sem, c0, d0]
  · obtain ⟨y, hy⟩ := Option.isSome_iff_exists.1 c1
    by_cases e : j * 3 + 1 = o
    · subst e; simp [go_sem, hy]
    · simp [go_sem, hy, e]
  · obtain ⟨y, hy⟩ := Option.isSome_iff_exists.1 c2
    by_cases e : j * 3 + 2 = o
    · subst e; simp [go_sem, hy]
    · simp [go_sem, hy, e]
theorem PushK.mark0 {b B n k : Nat} {w w' : World} {G0 K0 : Nat → Nat} (h : PushK b B w n G0 K0) (hb : Beside (G0 k) w w') (hk : k < n) (hd : (∀ i j, i < j → j < n → G0 i ≠ G0 j)) (hU : ∃ U, OwnI (G0 k) w' (some ⟨G0 k, 0, none⟩) (K0 k * 2) U) : PushK b B w' n G0 K0 := by
  obtain ⟨h1, h2, h3, h4⟩ := h
  obtain ⟨-, -, -, pk0, qk0, -, -⟩ := h4 k hk
  have nb : b ≠ G0 k := by omega
  refine ⟨Nat.lt_of_lt_of_le h1 hb.2.2.2.1, h2, fun o => (hb.frozen (p := ⟨b, o, none⟩) h1 nb).trans (h3 o), fun j hj => ?_⟩
  obtain ⟨c0, c1, c2, p0, q0, r0, U0, x0⟩ := h4 j hj
  refine ⟨(hb.cell (p := ⟨b, j * 3, none⟩) h1 nb).trans c0, by rw [hb.cell (p := ⟨b, j * 3 + 1, none⟩) h1 nb]; exact c1, by rw [hb.cell (p := ⟨b, j * 3 + 2, none⟩) h1 nb]; exact c2, p0, q0, Nat.lt_of_lt_of_le r0 hb.2.2.2.1, ?_⟩
  · by_cases e : j = k
    · subst e; exact hU
    · have ne : G0 j ≠ G0 k := by
        rcases Nat.lt_or_gt_of_ne e with z | z
        · exact hd j k z hk
        · exact fun q => hd k j z hj q.symm
      exact ⟨U0, fun i hi => by
        obtain ⟨y, ey, y1, y2, y3, y4⟩ := x0 i hi
        cases ey
        exact ⟨_, rfl, y1, Nat.lt_of_lt_of_le y2 hb.2.2.2.1, (hb.cell (p := ⟨G0 j, i, none⟩) y2 ne).trans y3, (hb.frozen (p := ⟨G0 j, i, none⟩) y2 ne).trans y4⟩⟩
theorem Ps_kept {b n : Nat} {w : World} {G0 : Nat → Nat} {K0 : Nat → Nat} {V0 : Nat → Nat → Int} {X1 : Nat → Int} {J2 : Nat → Bool} (h : PushC b w n n G0 K0 V0 X1 J2) : PushK b w.heap.size w n G0 K0 ∧ (∀ i j, i < j → j < n → G0 i ≠ G0 j) := by
  obtain ⟨h1, h2, h3, h4⟩ := h
  refine ⟨⟨h1, h1, h2, fun j hj => ?_⟩, ?_⟩
  · obtain ⟨c0, c1, c2, r0, s0, u0, -⟩ := h3 j hj
    exact ⟨c0, by rw [c1]; rfl, by rw [c2]; rfl, r0, s0, s0, _, u0⟩
  · intro i j hij hj
    have := (h3 j hj).2.2.2.2.2.2 i hij
    omega
set_option maxRecDepth 20000 in
set_option maxHeartbeats 8000000 in
theorem markPushS_any (b B n c : Nat) (G0 K0 : Nat → Nat) (w : World) (hn : (n : Int) ≤ 1048576) (hK0 : Hid (∀ j, j < n → (K0 j : Int) ≤ 1048576)) (HD : Hid ((∀ i j, i < j → j < n → G0 i ≠ G0 j))) (HR : Hid (PushK b B w n G0 K0)) :
    Calls Try.prog 22 #[.slice (some ⟨b, 0, none⟩) n c, .int .i64 1] w fun e w' => ∃ r : Int, 0 ≤ r ∧ e = .returned (.int .i64 r) ∧ Ranged b B w w' := by
  go_enter Try.func22, Try.ntmps22
  go_wp2_with fail
  go_loopw [1, 5] (fun q i wr => ∃ (j : Nat) (r : Int), j ≤ n ∧ i = .int .i64 j ∧ q = .int .i64 r ∧ 0 ≤ r ∧ r ≤ 1 + 4194310 * (j : Int) ∧ Hid (PushK b B wr n G0 K0) ∧ Hid (Ranged b B w wr)) (fun _ i _ => n - (intOf i).toNat)
  case atStart => exact ⟨0, 1, Nat.zero_le _, rfl, rfl, by omega, by omega, HR, Ranged.refl _ _ _⟩
  case round =>
    obtain ⟨j, r, hj, rfl, rfl, r0, r1, HS, HB⟩ := hrel
    by_cases h1 : j < n
    · have k1 : (j : Int) < (n : Int) := by omega
      have rmax : r ≤ 4194310 * 1048576 := by omega
      have kk0 := hK0.out j h1
      obtain ⟨zb1, yb1, fb1, hc1⟩ := HS.out
      obtain ⟨e0, e1, e2, p0, q0, s0, U0, x0⟩ := hc1 j h1
      clear hc1
      have HX0 : Hid (OwnI (G0 j) wr (some ⟨G0 j, 0, none⟩) (K0 j * 2) U0) := x0
      clear x0
      go_wp2_with fail
      refine (markOrderS_any2 (G0 j) (K0 j) _ r U0 _ kk0 (by omega) (by omega) s0 HX0.out).mono ?_
      rintro e m1 ⟨rfl, ⟨U', OU⟩, hm⟩
      replace HS : Hid (PushK b B m1 n G0 K0) := HS.out.mark0 hm h1 HD.out ⟨U', OU⟩
      replace HB : Hid (Ranged b B w m1) := HB.out.trans (Ranged.of hm (by omega) (by omega))
      clear HX0 OU hm e0 e1 e2 p0 q0 s0 zb1 yb1 fb1
      obtain ⟨r1, hr1⟩ : ∃ x : Int, r + (((K0 j * 2) : Nat) : Int) = x := ⟨_, rfl⟩
      rw [hr1]
      have rb1 : 0 ≤ r1 ∧ r1 ≤ r + 4194304 := by omega
      clear hr1
      obtain ⟨zb, yb, fb, hc⟩ := HS.out
      obtain ⟨e0, e1, e2, -⟩ := hc j h1
      clear hc
      obtain ⟨y1, z1⟩ := Option.isSome_iff_exists.1 e1
      clear e1
      obtain ⟨y2, z2⟩ := Option.isSome_iff_exists.1 e2
      clear e2
      go_wp2
      go_roundw
      case rel => exact ⟨j + 1, _, by omega, by go_num, rfl, by omega, by omega, ((((HS.out).set (fun j hj => by omega))).set (fun j hj => by omega)), ((((HB.out).trans (Ranged.of (Beside.setCell b _ (j * 3 + 1) _) (Nat.le_refl _) yb))).trans (Ranged.of (Beside.setCell b _ (j * 3 + 2) _) (Nat.le_refl _) yb))⟩
      case measure => simp [intOf]; omega
    · obtain rfl : j = n := by omega
      go_wp2
      go_ret
      exact ⟨r, r0, rfl, HB.out⟩
end Go.Proofs.Ytafifjodpgmiiaa
