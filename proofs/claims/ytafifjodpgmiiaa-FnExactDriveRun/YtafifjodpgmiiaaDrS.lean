/-
What is proved: a drive's run, as the specification tells it.
-/
import Derived.Test.YtafifjodpgmiiaaDrP
import Derived.Test.YtafifjodpgmiiaaDvS
import Derived.Test.YtafifjodpgmiiaaDcS
import Derived.Test.YtafifjodpgmiiaaOwnV
import Derived.RegionTactic
namespace Go.Proofs.Ytafifjodpgmiiaa
set_option maxRecDepth 40000
open Go.ChangeShapes Go.WideShapes Go.ChangeAt Go.RowKit
set_option linter.unusedVariables false
set_option linter.unusedSimpArgs false

theorem DrvAt.belowB {w w' : World} {p B : Nat} {P W T : Int} {F : Bool} (h : DrvAt w p P W T F) (hb : Below B w w') (hl : p < B) : DrvAt w' p P W T F := by
  obtain ⟨h1, h2, c0, c1, c2, c3⟩ := h
  exact ⟨Nat.lt_of_lt_of_le h1 hb.size, fun o => (hb.frozen (p := ⟨p, o, none⟩) hl).trans (h2 o), (hb.cell (p := ⟨p, 0, none⟩) hl).trans c0, (hb.cell (p := ⟨p, 1, none⟩) hl).trans c1, (hb.cell (p := ⟨p, 2, none⟩) hl).trans c2, (hb.cell (p := ⟨p, 3, none⟩) hl).trans c3⟩
theorem keepS7 {W W' : World} {p q i j l : Nat} {x0 x1 x2 x3 y0 y1 y2 : Value} (h0 : W.cell? ⟨p, 0, none⟩ = some x0) (h1 : W.cell? ⟨p, 1, none⟩ = some x1) (h2 : W.cell? ⟨p, 2, none⟩ = some x2) (h3 : W.cell? ⟨p, 3, none⟩ = some x3) (g0 : W.cell? ⟨q, i, none⟩ = some y0) (g1 : W.cell? ⟨q, j, none⟩ = some y1) (g2 : W.cell? ⟨q, l, none⟩ = some y2) (hp : p < W.heap.size) (hq : q < W.heap.size) (hb : Below W.heap.size W W') :
    W'.cell? ⟨p, 0, none⟩ = some x0 ∧ W'.cell? ⟨p, 1, none⟩ = some x1 ∧ W'.cell? ⟨p, 2, none⟩ = some x2 ∧ W'.cell? ⟨p, 3, none⟩ = some x3 ∧ W'.cell? ⟨q, i, none⟩ = some y0 ∧ W'.cell? ⟨q, j, none⟩ = some y1 ∧ W'.cell? ⟨q, l, none⟩ = some y2 :=
  ⟨(hb.cell (p := ⟨p, 0, none⟩) hp).trans h0, (hb.cell (p := ⟨p, 1, none⟩) hp).trans h1, (hb.cell (p := ⟨p, 2, none⟩) hp).trans h2, (hb.cell (p := ⟨p, 3, none⟩) hp).trans h3, (hb.cell (p := ⟨q, i, none⟩) hq).trans g0, (hb.cell (p := ⟨q, j, none⟩) hq).trans g1, (hb.cell (p := ⟨q, l, none⟩) hq).trans g2⟩
theorem ownS_same {w w' : World} {base : Nat} {v : Value} {k : Nat} {xs : List Value} (h : w.ownsRow base 2 1 v k xs) (hs : ∀ g, v.ownBlock = some g → w'.heap[g]? = w.heap[g]?) : w'.ownsRow base 2 1 v k xs := by
  refine ⟨h.1, ?_⟩
  rcases h.2 with q | ⟨g, cap, cur, e1, hb, hg, r⟩
  · exact .inl q
  · exact .inr ⟨g, cap, cur, e1, hb, (hs g (by rw [e1]; rfl)).trans hg, r⟩
theorem ownS_beside {base r : Nat} {w w' : World} {s : Option Addr} {m : Nat} {V : Nat → Int} (h : OwnI base w s m V) (hb : Beside r w w') (hr : r < base) : OwnI base w' s m V := fun j hj => by
  obtain ⟨b, e, hB, hl, hc, hf⟩ := h j hj
  exact ⟨b, e, hB, Nat.lt_of_lt_of_le hl hb.2.2.2.1, (hb.cell (p := ⟨b, j, none⟩) hl (by simp only; omega)).trans hc, (hb.frozen (p := ⟨b, j, none⟩) hl (by simp only; omega)).trans hf⟩
theorem own_belowS {w w' : World} {base : Nat} {v : Value} {k : Nat} {xs : List Value} (h : w.ownsRow base 2 1 v k xs) (hb : Below w.heap.size w w') : w'.ownsRow base 2 1 v k xs := ownS_same h fun g hg => hb.block g (h.lt g hg).2
set_option maxHeartbeats 4000000 in
theorem specRun_no (P W T : Int) (F : Bool) (s : Option Addr) (n c : Nat) (S : Nat → Option Addr) (K C : Nat → Nat) (V : Nat → Nat → Int) (X : Nat → Int) (J : Nat → Bool) (w : World) (hb : drvB P W T = false ∨ (1000 : Int) < n) (hm : (n : Int) ≤ 1048576) : Calls Try.prog 15 #[.agg #[.int .i64 P, .int .i64 W, .int .i64 T, .bool F], .slice s n c] w fun e w' => ∃ s' c', e = .returned (.tuple #[.slice s' 0 c', .agg #[.int .i64 0, .int .i64 0, .int .i64 0, .bool false], .bool false]) ∧ Below w.heap.size w w' := by
  go_enter Try.func15, Try.ntmps15
  go_wp2_with fail
  refine (l17Drive_any _ _ _ _ _).mono ?_
  rintro e w1 ⟨rfl, rfl⟩
  cases h0 : drvB P W T
  · go_wp2
    exact bodyPost_ret (v := .tuple #[.slice (some ⟨w.heap.size + 1 + 1, 0, none⟩) 0 0, .agg #[.int .i64 0, .int .i64 0, .int .i64 0, .bool false], .bool false]) (by simp [results, Try.results15, go_sem]) rfl ⟨_, _, rfl, (by repeat (first | with_reducible exact Below.refl _ _ | with_reducible refine Below.setCell ?_ (by first | omega | (simp; done) | (simp; omega)) _ | with_reducible refine bDrewN ?_ _ | with_reducible refine Below.drew ?_ | with_reducible refine Below.alloc ?_ (by first | omega | (simp; done) | (simp; omega)) _))⟩
  have h1 : (1000 : Int) < n := hb.resolve_left (by rw [h0]; decide)
  clear hb
  go_wp2
  exact bodyPost_ret (v := .tuple #[.slice (some ⟨w.heap.size + 1 + 1, 0, none⟩) 0 0, .agg #[.int .i64 0, .int .i64 0, .int .i64 0, .bool false], .bool false]) (by simp [results, Try.results15, go_sem]) rfl ⟨_, _, rfl, (by repeat (first | with_reducible exact Below.refl _ _ | with_reducible refine Below.setCell ?_ (by first | omega | (simp; done) | (simp; omega)) _ | with_reducible refine bDrewN ?_ _ | with_reducible refine Below.drew ?_ | with_reducible refine Below.alloc ?_ (by first | omega | (simp; done) | (simp; omega)) _))⟩
set_option maxRecDepth 20000 in
set_option maxHeartbeats 16000000 in
theorem specRun_near (P W T : Int) (F : Bool) (s : Option Addr) (n c : Nat) (S : Nat → Option Addr) (K C : Nat → Nat) (V : Nat → Nat → Int) (X : Nat → Int) (J : Nat → Bool) (w : World) (hn : (n : Int) ≤ 1000) (kd : drvB P W T = true) (HP : Hid (PshR w s n S K C V X J)) (L : Nat) (v0 v1 v2 : Int) (v3 rb : Bool) (HT : Hid (allD (P, W, T, F) K V X J n = true → L = n ∧ stD (P, W, T, F) K V X J n = (v0, v1, v2, v3) ∧ rb = true)) (HF : Hid (allD (P, W, T, F) K V X J n = false → L = 0 ∧ v0 = 0 ∧ v1 = 0 ∧ v2 = 0 ∧ v3 = false ∧ rb = false)) : Calls Try.prog 15 #[.agg #[.int .i64 P, .int .i64 W, .int .i64 T, .bool F], .slice s n c] w fun e w' => ∃ s' c', e = .returned (.tuple #[.slice s' L c', .agg #[.int .i64 v0, .int .i64 v1, .int .i64 v2, .bool v3], .bool rb]) ∧ OwnI w.heap.size w' s' L (fun k => (stD (P, W, T, F) K V X J (k + 1)).1) ∧ Below w.heap.size w w' := by
  go_enter Try.func15, Try.ntmps15
  go_wp2_with fail
  refine (l17Drive_any _ _ _ _ _).mono ?_
  rintro e w1 ⟨rfl, hw1⟩
  have D0 : Hid (DrvAt w1 w.heap.size P W T F) := by show DrvAt _ _ _ _ _ _; rw [hw1]; exact ⟨by first | (simp; done) | (simp; omega), fun o => by simp [go_sem], by simp [go_sem], by simp [go_sem], by simp [go_sem], by simp [go_sem]⟩
  have R0 : Hid (DrvAt w1 (w.heap.size + 1) 0 0 0 false) := by show DrvAt _ _ _ _ _ _; rw [hw1]; exact ⟨by first | (simp; done) | (simp; omega), fun o => by simp [go_sem], by simp [go_sem], by simp [go_sem], by simp [go_sem], by simp [go_sem]⟩
  have B0 : Hid (Below w.heap.size w w1) := by show Below _ _ _; rw [hw1]; exact (by repeat (first | with_reducible exact Below.refl _ _ | with_reducible refine Below.setCell ?_ (by first | omega | (simp; done) | (simp; omega)) _ | with_reducible refine bDrewN ?_ _ | with_reducible refine Below.drew ?_ | with_reducible refine Below.alloc ?_ (by first | omega | (simp; done) | (simp; omega)) _))
  clear hw1
  have z0 : w.heap.size + 1 < w1.heap.size := R0.out.1
  rw [kd]
  go_wp2_with fail
  go_loopw [8, 9] (fun v i wr => ∃ k : Nat, k ≤ n ∧ i = .int .i64 k ∧ Hid (allD (P, W, T, F) K V X J k = true) ∧ Hid (DrvAt wr w.heap.size (stD (P, W, T, F) K V X J k).1 (stD (P, W, T, F) K V X J k).2.1 (stD (P, W, T, F) K V X J k).2.2.1 (stD (P, W, T, F) K V X J k).2.2.2) ∧ Hid (DrvAt wr (w.heap.size + 1) 0 0 0 false) ∧ Hid (wr.ownsRow w1.heap.size 2 1 v k (vals (fun k => (stD (P, W, T, F) K V X J (k + 1)).1) k)) ∧ Hid (Below w.heap.size w wr) ∧ w1.heap.size ≤ wr.heap.size) (fun _ i _ => n - (intOf i).toNat)
  case atStart =>
    refine ⟨0, Nat.zero_le _, rfl, rfl, ?_, ?_, (made_lit w1 (fun k => (stD (P, W, T, F) K V X J (k + 1)).1) (Nat.le_refl _)).1, ?_, by simp⟩
    · exact D0.out.below (below0 _ _)
    · exact R0.out.below (below0 _ _)
    · exact B0.out.trans ((below0 _ _).mono B0.out.size)
  case round =>
    obtain ⟨k, hk, rfl, HA, HD, HR, HO, HB, zr⟩ := hrel
    clear D0 R0 B0
    by_cases h1 : k < n
    case neg =>
      obtain rfl : k = n := by omega
      obtain ⟨rfl, hst, rfl⟩ := HT.out HA.out
      rw [hst] at HD
      obtain ⟨yd, fd, d0, d1, d2, d3⟩ := HD.out
      obtain ⟨yr, fr, r0, r1, r2, r3⟩ := HR.out
      have fr0 := fr 0
      have fr1 := fr 1
      have fr2 := fr 2
      have fr3 := fr 3
      obtain ⟨t', cap', rfl, ho⟩ := made_own (w := wr) ⟨HO.out, Below.refl _ _⟩
      have HOI : Hid (OwnI w1.heap.size wr t' L (fun k => (stD (P, W, T, F) K V X J (k + 1)).1)) := ho
      have HBr : Hid (Below w.heap.size w wr) := HB
      clear HD HR HO HB ho fd fr HT HF HA
      go_upto_region 13 with fail
      go_region
      all_goals
        go_wp2
        have BF := HBr.out
        refine bodyPost_ret (v := .tuple #[.slice t' L cap', .agg #[.int .i64 v0, .int .i64 v1, .int .i64 v2, .bool v3], .bool true]) (by simp [results, Try.results15, go_sem, d0, d1, d2, d3, r0, r1, r2, r3]) rfl ?_
        have HQ : OwnI w.heap.size _ t' L (fun k => (stD (P, W, T, F) K V X J (k + 1)).1) := (ownS_beside HOI.out ((((Beside.setCell (w.heap.size + 1) wr 0 (.int .i64 v0)).trans (Beside.setCell (w.heap.size + 1) _ 1 (.int .i64 v1))).trans (Beside.setCell (w.heap.size + 1) _ 2 (.int .i64 v2))).trans (Beside.setCell (w.heap.size + 1) _ 3 (.bool v3))) (by omega)).mono (by omega)
        have HQ2 := HQ.below ((Below.refl _ _).drew)
        first | exact ⟨t', cap', rfl, HQ2, (by repeat (first | with_reducible exact Below.refl _ _ | with_reducible exact BF | with_reducible refine Below.setCell ?_ (by first | omega | (simp; done) | (simp; omega)) _ | with_reducible refine bDrewN ?_ _ | with_reducible refine Below.drew ?_ | with_reducible refine Below.alloc ?_ (by first | omega | (simp; done) | (simp; omega)) _))⟩ | exact ⟨t', ⟨cap', rfl⟩, HQ2, (by repeat (first | with_reducible exact Below.refl _ _ | with_reducible exact BF | with_reducible refine Below.setCell ?_ (by first | omega | (simp; done) | (simp; omega)) _ | with_reducible refine bDrewN ?_ _ | with_reducible refine Below.drew ?_ | with_reducible refine Below.alloc ?_ (by first | omega | (simp; done) | (simp; omega)) _))⟩ | exact ⟨t', cap', rfl, HQ, (by repeat (first | with_reducible exact Below.refl _ _ | with_reducible exact BF | with_reducible refine Below.setCell ?_ (by first | omega | (simp; done) | (simp; omega)) _ | with_reducible refine bDrewN ?_ _ | with_reducible refine Below.drew ?_ | with_reducible refine Below.alloc ?_ (by first | omega | (simp; done) | (simp; omega)) _))⟩ | exact ⟨t', ⟨cap', rfl⟩, HQ, (by repeat (first | with_reducible exact Below.refl _ _ | with_reducible exact BF | with_reducible refine Below.setCell ?_ (by first | omega | (simp; done) | (simp; omega)) _ | with_reducible refine bDrewN ?_ _ | with_reducible refine Below.drew ?_ | with_reducible refine Below.alloc ?_ (by first | omega | (simp; done) | (simp; omega)) _))⟩
    case pos =>
      have k1 : (k : Int) < n := by omega
      obtain ⟨g, o, rfl, hg, c0, c1, c2, RW⟩ := HP.out k h1
      have d0 : wr.cell? ⟨g, o + k * 3, none⟩ = some (.slice (S k) (K k) (C k)) := (HB.out.cell (p := ⟨g, o + k * 3, none⟩) hg).trans c0
      have d1 : wr.cell? ⟨g, o + k * 3 + 1, none⟩ = some (.int .i64 (X k)) := (HB.out.cell (p := ⟨g, o + k * 3 + 1, none⟩) hg).trans c1
      have d2 : wr.cell? ⟨g, o + k * 3 + 2, none⟩ = some (.bool (J k)) := (HB.out.cell (p := ⟨g, o + k * 3 + 2, none⟩) hg).trans c2
      have HRw : Hid (RowI wr (S k) (K k * 2) (V k)) := RW.below HB.out
      have zg : g < wr.heap.size := Nat.lt_of_lt_of_le hg HB.out.size
      clear c0 c1 c2 RW hg
      obtain ⟨q, hst⟩ : ∃ q, stD (P, W, T, F) K V X J k = q := ⟨_, rfl⟩
      obtain ⟨dc, hdc⟩ : ∃ dc, decV (V k) (K k) = dc := ⟨_, rfl⟩
      obtain ⟨q0, q1, q2, q3⟩ := q
      obtain ⟨y, hyy⟩ : ∃ y, drvV q0 q1 q2 q3 dc (X k) (J k) = y := ⟨_, rfl⟩
      obtain ⟨ok, hok⟩ : ∃ ok, dstB q0 q1 q2 dc (X k) = ok := ⟨_, rfl⟩
      obtain ⟨y0, y1, y2, y3⟩ := y
      have HN : Hid (stD (P, W, T, F) K V X J (k + 1) = (y0, y1, y2, y3) ∧ okD (P, W, T, F) K V X J k = ok) := by
        refine ⟨?_, ?_⟩
        · show drvV _ _ _ _ _ _ _ = _
          rw [hst, hdc]; exact hyy
        · show dstB _ _ _ _ _ = _
          rw [hst, hdc]; exact hok
      rw [hst] at HD
      have HST : Hid (∀ w, Calls Try.prog 26 #[.agg #[.int .i64 q0, .int .i64 q1, .int .i64 q2, .bool q3], .int .i64 dc, .int .i64 (X k), .bool (J k)] w fun e w' => e = .returned (.tuple #[.agg #[.int .i64 y0, .int .i64 y1, .int .i64 y2, .bool y3], .bool ok]) ∧ Below w.heap.size w w') := fun w => by
        have := specDrive_any q0 q1 q2 q3 dc (X k) (J k) w
        rw [hyy, hok] at this
        exact this
      have HDC : Hid (∀ W, Below wr.heap.size wr W → Calls Try.prog 8 #[.slice (S k) (K k) (C k)] W fun e w' => e = .returned (.int .i64 dc) ∧ w' = W) := fun W b => by
        have := specDecide_any (S k) (K k) (C k) (V k) W (HRw.out.below b)
        rw [hdc] at this
        exact this
      clear HRw hst hdc hyy hok
      obtain ⟨zd, fd, b0, b1, b2, b3⟩ := HD.out
      clear fd
      go_upto_region 8 with fail
      go_cut [10, 11] (fun a b wx => ∃ g : Nat, a = .pointer (some ⟨g, 0, none⟩) ∧ b = .bool ok ∧ wr.heap.size ≤ g ∧ wx.cell? ⟨g, 0, none⟩ = some (.int .i64 y0) ∧ wx.cell? ⟨g, 1, none⟩ = some (.int .i64 y1) ∧ wx.cell? ⟨g, 2, none⟩ = some (.int .i64 y2) ∧ wx.cell? ⟨g, 3, none⟩ = some (.bool y3) ∧ g < wx.heap.size ∧ Hid (Below wr.heap.size wr wx))
      case first =>
        go_region_held3 (fun w' => w'.cell? ⟨w.heap.size, 0, none⟩ = some (.int .i64 q0) ∧ w'.cell? ⟨w.heap.size, 1, none⟩ = some (.int .i64 q1) ∧ w'.cell? ⟨w.heap.size, 2, none⟩ = some (.int .i64 q2) ∧ w'.cell? ⟨w.heap.size, 3, none⟩ = some (.bool q3) ∧ w'.cell? ⟨g, o + k * 3, none⟩ = some (.slice (S k) (K k) (C k)) ∧ w'.cell? ⟨g, o + k * 3 + 1, none⟩ = some (.int .i64 (X k)) ∧ w'.cell? ⟨g, o + k * 3 + 2, none⟩ = some (.bool (J k))) (first | (refine keepS7 b0 b1 b2 b3 d0 d1 d2 zd zg ?_; exact (by repeat (first | with_reducible exact Below.refl _ _ | with_reducible exact BB4 | with_reducible refine Below.setCell ?_ (by first | omega | (simp; done) | (simp; omega)) _ | with_reducible refine bDrewN ?_ _ | with_reducible refine Below.drew ?_ | with_reducible refine Below.alloc ?_ (by first | omega | (simp; done) | (simp; omega)) _)))) (first
          | (go_at_call 8; refine (HDC.out _ (by repeat (first | with_reducible exact Below.refl _ _ | with_reducible refine Below.setCell ?_ (by first | omega | (simp; done) | (simp; omega)) _ | with_reducible refine bDrewN ?_ _ | with_reducible refine Below.drew ?_ | with_reducible refine Below.alloc ?_ (by first | omega | (simp; done) | (simp; omega)) _))).mono ?_; rintro e w3 ⟨rfl, rfl⟩)
          | (go_at_call 26; refine (HST.out _).mono ?_; rintro e w4 ⟨rfl, h4⟩; have BB4 : Below wr.heap.size wr w4 := Below.trans (by repeat (first | with_reducible exact Below.refl _ _ | with_reducible refine Below.setCell ?_ (by first | omega | (simp; done) | (simp; omega)) _ | with_reducible refine bDrewN ?_ _ | with_reducible refine Below.drew ?_ | with_reducible refine Below.alloc ?_ (by first | omega | (simp; done) | (simp; omega)) _)) (h4.mono (by first | omega | (simp; done) | (simp; omega))); have s4 := BB4.size; have s4b := h4.size; (try simp at s4b); (try (have r0 := h4.cell (p := ⟨wr.heap.size, 0, none⟩) (by first | omega | (simp; done) | (simp; omega)); have r1 := h4.cell (p := ⟨wr.heap.size, 1, none⟩) (by first | omega | (simp; done) | (simp; omega)); have r2 := h4.cell (p := ⟨wr.heap.size, 2, none⟩) (by first | omega | (simp; done) | (simp; omega)); have r3 := h4.cell (p := ⟨wr.heap.size, 3, none⟩) (by first | omega | (simp; done) | (simp; omega)); have rf0 := h4.frozen (p := ⟨wr.heap.size, 0, none⟩) (by first | omega | (simp; done) | (simp; omega)); have rf1 := h4.frozen (p := ⟨wr.heap.size, 1, none⟩) (by first | omega | (simp; done) | (simp; omega)); have rf2 := h4.frozen (p := ⟨wr.heap.size, 2, none⟩) (by first | omega | (simp; done) | (simp; omega)); have rf3 := h4.frozen (p := ⟨wr.heap.size, 3, none⟩) (by first | omega | (simp; done) | (simp; omega)); simp (maxDischargeDepth := 12) [go_sem, *] at r0 rf0 r1 rf1 r2 rf2 r3 rf3)); clear h4))
        all_goals
          go_wp2_with fail
          go_meet
          case rel =>
            refine ⟨_, rfl, rfl, ?_, ?_, ?_, ?_, ?_, ?_, (by show Below _ _ _; exact (by repeat (first | with_reducible exact Below.refl _ _ | with_reducible exact BB4 | with_reducible refine Below.setCell ?_ (by first | omega | (simp; done) | (simp; omega)) _ | with_reducible refine bDrewN ?_ _ | with_reducible refine Below.drew ?_ | with_reducible refine Below.alloc ?_ (by first | omega | (simp; done) | (simp; omega)) _)))⟩
            all_goals first | omega | (simp [go_sem, *]; done) | (simp [go_sem, *, Nat.add_assoc]; done) | (simp; omega) | (simp [*]; omega)
      case rest =>
        obtain ⟨gd, rfl, rfl, lg, g0, g1, g2, g3, zgd, HBx⟩ := hcut
        replace HR : Hid (DrvAt wc (w.heap.size + 1) 0 0 0 false) := HR.out.below HBx.out
        have HDx : Hid (DrvAt wc w.heap.size q0 q1 q2 q3) := HD.out.below HBx.out
        replace HB : Hid (Below w.heap.size w wc) := HB.out.trans (HBx.out.mono HB.out.size)
        replace HO : Hid (wc.ownsRow w1.heap.size 2 1 u8 k (vals (fun k => (stD (P, W, T, F) K V X J (k + 1)).1) k)) := own_belowS HO.out HBx.out
        have zc : w1.heap.size ≤ wc.heap.size := Nat.le_trans zr HBx.out.size
        clear HD HDC HST HBx d0 d1 d2 b0 b1 b2 b3 zd zg
        cases ok
        · obtain ⟨rfl, rfl, rfl, rfl, rfl, rfl⟩ := HF.out (all_no h1 HN.out.2)
          obtain ⟨zq, fr, r0, r1, r2, r3⟩ := HR.out
          clear HR HDx HT HF HN HO
          go_wp2
          exact bodyPost_ret (v := .tuple #[.slice (some ⟨w.heap.size + 1 + 1, 0, none⟩) 0 0, .agg #[.int .i64 0, .int .i64 0, .int .i64 0, .bool false], .bool false]) (by simp [results, Try.results15, go_sem, r0, r1, r2, r3]) rfl ⟨_, _, rfl, fun j hj => by omega, (by have B := HB.out; have sB := B.size; exact (by repeat (first | with_reducible exact Below.refl _ _ | with_reducible exact B | with_reducible refine Below.setCell ?_ (by first | omega | (simp; done) | (simp; omega)) _ | with_reducible refine bDrewN ?_ _ | with_reducible refine Below.drew ?_ | with_reducible refine Below.alloc ?_ (by first | omega | (simp; done) | (simp; omega)) _)))⟩
        · have HA2 : Hid (allD (P, W, T, F) K V X J (k + 1) = true) := by
            show (allD (P, W, T, F) K V X J k && okD (P, W, T, F) K V X J k) = true
            rw [HA.out, HN.out.2]
            rfl
          obtain ⟨zd, fd, c0, c1, c2, c3⟩ := HDx.out
          have f0 := fd 0
          have f1 := fd 1
          have f2 := fd 2
          have f3 := fd 3
          have ng : gd ≠ w.heap.size := by omega
          clear fd HT HF
          go_upto_region 12 with fail
          obtain ⟨w5, hw5⟩ : ∃ w5, w5 = (((wc.setCell ⟨w.heap.size, 0, none⟩ (.int .i64 y0)).setCell ⟨w.heap.size, 1, none⟩ (.int .i64 y1)).setCell ⟨w.heap.size, 2, none⟩ (.int .i64 y2)).setCell ⟨w.heap.size, 3, none⟩ (.bool y3) := ⟨_, rfl⟩
          rw [← hw5]
          have D5 : Hid (DrvAt w5 w.heap.size y0 y1 y2 y3) := by show DrvAt _ _ _ _ _ _; rw [hw5]; exact (((HDx.out.set0 y0).set1 y1).set2 y2).set3 y3
          have bs5 : Beside w.heap.size wc w5 := by rw [hw5]; exact (((Beside.setCell w.heap.size _ 0 _).trans (Beside.setCell w.heap.size _ 1 _)).trans (Beside.setCell w.heap.size _ 2 _)).trans (Beside.setCell w.heap.size _ 3 _)
          replace HB : Hid (Below w.heap.size w w5) := by show Below _ _ _; rw [hw5]; have B := HB.out; exact (by repeat (first | with_reducible exact Below.refl _ _ | with_reducible exact B | with_reducible refine Below.setCell ?_ (by first | omega | (simp; done) | (simp; omega)) _ | with_reducible refine bDrewN ?_ _ | with_reducible refine Below.drew ?_ | with_reducible refine Below.alloc ?_ (by first | omega | (simp; done) | (simp; omega)) _))
          clear hw5 c0 c1 c2 c3 f0 f1 f2 f3 g0 g1 g2 g3 HDx zd
          replace HR : Hid (DrvAt w5 (w.heap.size + 1) 0 0 0 false) := HR.out.beside bs5 (by omega)
          replace HO : Hid (w5.ownsRow w1.heap.size 2 1 u8 k (vals (fun k => (stD (P, W, T, F) K V X J (k + 1)).1) k)) := ownS_same HO.out fun q hq => bs5.2.2.2.2 q (HO.out.lt q hq).2 (by have := (HO.out.lt q hq).1; omega)
          replace zc : w1.heap.size ≤ w5.heap.size := Nat.le_trans zc bs5.2.2.2.1
          clear bs5
          obtain ⟨zd, fd, c0, -, -, -⟩ := D5.out
          clear fd
          go_wp2_with (at_builtin; refine list_i64 w1.heap.size u8 k (vals (fun k => (stD (P, W, T, F) K V X J (k + 1)).1) k) (.tmp 56) (.tmp 59) (by rfl) (by rfl) (by rfl) (by rfl) HO.out (by omega) (by omega) ?_; intro g' cap' w9 hown9 hgrow9 hlt9)
          have B9 : Below w1.heap.size w5 w9 := grown_below hgrow9 zc (own_block HO.out)
          go_roundw
          case rel =>
            refine ⟨k + 1, by omega, by go_num, HA2, ?_, ?_, ?_, ?_, ?_⟩
            · rw [HN.out.1]; exact D5.out.belowB B9 (by omega)
            · exact HR.out.belowB B9 (by omega)
            · show w9.ownsRow _ _ _ _ _ _
              have e := HN.out.1
              rw [vals_succ]
              show w9.ownsRow _ _ _ _ _ (_ ++ [.int .i64 (stD (P, W, T, F) K V X J (k + 1)).1])
              rw [e]
              exact hown9
            · exact HB.out.trans (B9.mono (by omega))
            · exact Nat.le_trans zc B9.size
          case measure => simp [intOf]; omega
theorem specRun_any (P W T : Int) (F : Bool) (s : Option Addr) (n c : Nat) (S : Nat → Option Addr) (K C : Nat → Nat) (V : Nat → Nat → Int) (X : Nat → Int) (J : Nat → Bool) (w : World) (hm : (n : Int) ≤ 1048576) (HP : Hid (PshR w s n S K C V X J)) (L : Nat) (v0 v1 v2 : Int) (v3 rb : Bool) (HT : Hid (runB (P, W, T, F) n K V X J = true → L = n ∧ stD (P, W, T, F) K V X J n = (v0, v1, v2, v3) ∧ rb = true)) (HF : Hid (runB (P, W, T, F) n K V X J = false → L = 0 ∧ v0 = 0 ∧ v1 = 0 ∧ v2 = 0 ∧ v3 = false ∧ rb = false)) : Calls Try.prog 15 #[.agg #[.int .i64 P, .int .i64 W, .int .i64 T, .bool F], .slice s n c] w fun e w' => ∃ s' c', e = .returned (.tuple #[.slice s' L c', .agg #[.int .i64 v0, .int .i64 v1, .int .i64 v2, .bool v3], .bool rb]) ∧ OwnI w.heap.size w' s' L (fun k => (stD (P, W, T, F) K V X J (k + 1)).1) ∧ Below w.heap.size w w' := by
  have e : runB (P, W, T, F) n K V X J = (drvB P W T && (decide (n ≤ 1000) && allD (P, W, T, F) K V X J n)) := rfl
  cases h0 : drvB P W T
  · obtain ⟨rfl, rfl, rfl, rfl, rfl, rfl⟩ := HF.out (by rw [e, h0, Bool.false_and])
    exact (specRun_no P W T F s n c S K C V X J w (Or.inl h0) hm).mono fun e w' ⟨s', c', a, b⟩ => ⟨s', c', a, fun j hj => by omega, b⟩
  by_cases h1 : n ≤ 1000
  · refine specRun_near P W T F s n c S K C V X J w (by omega) h0 HP L v0 v1 v2 v3 rb (fun q => HT.out ?_) (fun q => HF.out ?_)
    · rw [e, h0, q, decide_eq_true h1]; rfl
    · rw [e, h0, q, Bool.and_false]; rfl
  · obtain ⟨rfl, rfl, rfl, rfl, rfl, rfl⟩ := HF.out (by rw [e, h0, decide_eq_false h1]; rfl)
    exact (specRun_no P W T F s n c S K C V X J w (Or.inr (by omega)) hm).mono fun e w' ⟨s', c', a, b⟩ => ⟨s', c', a, fun j hj => by omega, b⟩
end Go.Proofs.Ytafifjodpgmiiaa
