/-
What is proved: what the program's Rain counts.
-/
import Derived.Test.YthengechoaodcaaRnC
import Derived.Laws.AppendOwnNone
namespace Go.Proofs.Ythengechoaodcaa
set_option maxRecDepth 40000
open Go.ChangeShapes Go.WideShapes Go.ChangeAt Go.RowKit
set_option linter.unusedVariables false
set_option linter.unusedSimpArgs false

theorem news_own {W : World} {b g cap : Nat} {xs : List (Int × Int)} (h : W.ownsRow b 36 2 (.slice (some ⟨g, 0, none⟩) xs.length cap) xs.length (swC xs)) : ∀ j u, (swC xs)[j]? = some u → W.cell? ((⟨g, 0, none⟩ : Addr).add j) = some u := fun j u hu => by
  rw [Addr.add_lit, Nat.zero_add]
  have hj : j < xs.length * 2 := by
    have := (List.getElem?_eq_some_iff.1 hu).1
    rwa [swC_len] at this
  rw [h.cellAt j (by omega)]
  exact hu
theorem list_joinSw {ops : Array Oper} {rest : List Oper} {o : Oper} {a : Act} {Q : Exit → Act → World → Prop} {W : World} (base : Nat) (v : Value) (os : List (Int × Int)) (b2 : Nat) (vx : Value) (xs : List (Int × Int)) (s z : Operand) (hgd : o.guard = none)
    (ho : o.op = .call { callee := .builtin .append, args := #[s, z], argTypes := #[23, 23] }) (hs : a.eval s = v) (hx : a.eval z = vx) (hown : W.ownsRow base 36 2 v os.length (swC os)) (hxs : W.ownsRow b2 36 2 vx xs.length (swC xs)) (hk : os.length ≤ 10000) (hn : xs.length ≤ 10000) (hb : base ≤ W.heap.size)
    (h : ∀ v' w', w'.ownsRow base 36 2 v' (os ++ xs).length (swC (os ++ xs)) → W.grownBy w' v.ownBlock → wpList Try.prog ops Q rest (a.put o.dst v') w') :
    wpList Try.prog ops Q (o :: rest) a W := by
  obtain ⟨i0, hi, hz0, hz1, hz2⟩ := info_parts info_Swing
  rcases hxs.2 with ⟨e, e0⟩ | ⟨g, cap, cur, e, _⟩
  · have e1 : xs = [] := List.eq_nil_of_length_eq_zero e0
    subst e1
    rw [e] at hx
    refine wpList_append_own_none hgd s z 23 ho base 36 i0 2 Try.underlying23 hi v os.length (swC os) hs hown hx ?_
    refine h v W (by rw [List.append_nil]; exact hown) ⟨rfl, rfl, rfl, Nat.le_refl _, fun _ _ _ => rfl⟩
  · subst e
    refine wpList_append_own _ hgd s z 23 ho base 36 i0 (.agg #[.int .i64 0, .int .i64 0]) 2 16 Try.underlying23 hi hz0 hz1 hz2 rfl (by decide) v os.length (swC os) hs hown ⟨g, 0, none⟩ xs.length cap (swC xs) hx (swC_len xs) (news_own hxs) (swC_one xs) (by unfold maxLen; omega) (by omega) hb ?_
    intro v' w' h1 h2 _
    exact h v' w' (by rw [swC_app, List.length_append]; exact h1) h2
theorem Fr.row {p B : Nat} {w w' : World} {s : Option Addr} {n : Nat} {V : Nat → Int} (h : Fr p B w w') (R : RowI w s n V) (hb : 0 < n → ∀ b o, s = some ⟨b, o, none⟩ → b ≠ p ∧ b < B) : RowI w' s n V := fun j hj => by
  obtain ⟨b, o, e, hl, hc⟩ := R j hj
  have q := hb (by omega) b o e
  have eb : w'.heap[b]? = w.heap[b]? := by
    rcases h.2.2.2.2 b hl q.1 with r | r
    · exact r
    · omega
  exact ⟨b, o, e, Nat.lt_of_lt_of_le hl h.2.2.2.1, (World.cell?_of_block (w := w) (a := ⟨b, o + j, none⟩) eb).trans hc⟩
theorem Fr.listB {p B b : Nat} {w w1 w2 : World} {v : Value} {n : Nat} {xs : List Value} (h : Fr p B w w1) (ho : w1.ownsRow b 36 2 v n xs) (hb : w.heap.size ≤ b) (hg : w1.grownBy w2 v.ownBlock) : Fr p B w w2 := by
  obtain ⟨h1, h2, h3, h4, h5⟩ := h
  refine ⟨hg.os.trans h1, hg.tape.trans h2, hg.output.trans h3, Nat.le_trans h4 hg.size, fun k hk hp => ?_⟩
  have e : w2.heap[k]? = w1.heap[k]? := hg.block k (by omega) (fun q => by have := own_block ho k q.symm; omega)
  rcases h5 k hk hp with q | q
  · exact .inl (e.trans q)
  · exact .inr q
theorem stk_same {p B b g oo n cap m : Nat} {W W' : World} {l : List Int} {v : Value} {xs : List Value} (h : LfA p B W l) (hc : W.cell? ⟨p, 0, none⟩ = some (.slice (some ⟨g, oo, none⟩) n cap)) (ho : W.ownsRow b 36 2 v m xs) (hp : p < b) (hg : W.grownBy W' v.ownBlock) : W'.cell? ⟨p, 0, none⟩ = W.cell? ⟨p, 0, none⟩ ∧ ∀ q, W'.cell? ⟨g, q, none⟩ = W.cell? ⟨g, q, none⟩ := by
  obtain ⟨h1, h2, h3, u, h4, h5⟩ := h
  have e : W'.heap[p]? = W.heap[p]? := hg.block p (by omega) (fun q => by have := own_block ho p q.symm; omega)
  refine ⟨World.cell?_of_block (w := W) (a := ⟨p, 0, none⟩) e, fun q => World.cell?_of_block (w := W) (a := ⟨g, q, none⟩) ?_⟩
  rw [hc] at h4
  cases h4
  rcases h5 with ⟨e2, _⟩ | ⟨g', o', cap', cur, e2, _, hh, _⟩
  · cases e2
  · cases e2
    refine hg.block g (Array.getElem?_eq_some_iff.1 hh).1 (fun e3 => ?_)
    rcases ho.2 with ⟨e', _⟩ | ⟨g2, cap2, cur2, e', _, hg2, _⟩
    · rw [e'] at e3; cases e3
    · rw [e'] at e3
      cases e3
      rw [hh] at hg2
      cases hg2
theorem lf_start {T : List Int} {w w1 : World} {t : TypeId} (b : Below (w.alloc (.cells #[.slice none 0 0] t)).heap.size (w.alloc (.cells #[.slice none 0 0] t)) w1) : LfA w.heap.size w1.heap.size w1 (rainT T 0).1 := by
  have z : (w.alloc (.cells #[.slice none 0 0] t)).heap.size = w.heap.size + 1 := by simp
  have s1 := b.size
  exact ⟨by omega, Nat.le_refl _, fun o => (b.frozen (p := ⟨w.heap.size, o, none⟩) (by show w.heap.size < _; omega)).trans (by simp [go_sem]), _, (b.cell (p := ⟨w.heap.size, 0, none⟩) (by show w.heap.size < _; omega)).trans (by simp [go_sem]), .inl ⟨rfl, rfl⟩⟩
set_option maxRecDepth 20000 in
set_option maxHeartbeats 8000000 in
theorem implRain_any (s : Option Addr) (n c : Nat) (V : Nat → Int) (w : World) (hn : (n : Int) ≤ 1048576) (HR : Hid (RowI w s n V)) :
    Calls Try.prog 11 #[.slice s n c] w fun e w' => RainP w (rainL (turnL n V)) e w' := by
  have HT4 := turnL_400 n V
  have HBd : Hid (Bd 100000 (turnL n V)) := turnL_bd n V
  have HTC : Hid (∀ W, RowI W s n V → Calls Try.prog 20 #[.slice s n c] W fun e w' => ∃ s' c', e = .returned (.slice s' (turnL n V).length c') ∧ OwnI W.heap.size w' s' (turnL n V).length (nthI (turnL n V)) ∧ Below W.heap.size W w') := fun W h => implTurnings_any s n c V W hn h
  generalize turnL n V = T at *
  go_enter Try.func11, Try.ntmps11
  go_wp2_with fail
  refine (HTC.out _ (HR.out.below (by repeat (first | with_reducible exact Below.refl _ _ | with_reducible refine Below.setCell ?_ (by first | omega | (simp; done) | (simp; omega)) _ | with_reducible refine bDrewN ?_ _ | with_reducible refine Below.drew ?_ | with_reducible refine Below.alloc ?_ (by first | omega | (simp; done) | (simp; omega)) _)))).mono ?_
  rintro e w1 ⟨st, ct, rfl, O1, b1⟩
  have HL : Hid (LfA w.heap.size w1.heap.size w1 (rainT T 0).1) := lf_start (T := T) b1
  have z1 : (w.alloc (.cells #[.slice none 0 0] 60)).heap.size = w.heap.size + 1 := by simp
  have s1 := b1.size
  have HT : Hid (RowI w1 st T.length (nthI T)) := O1.row
  have HTb : Hid (0 < T.length → ∀ b o, st = some ⟨b, o, none⟩ → b ≠ w.heap.size ∧ b < w1.heap.size) := fun hT b o e => by
    obtain ⟨b', e', h1, h2, _⟩ := O1 0 hT
    rw [e] at e'
    cases e'
    omega
  have HB1 : Hid (Below w.heap.size w w1) := (below0 _ _).trans (b1.mono (by omega))
  have HO : Hid (w1.ownsRow w1.heap.size 36 2 (.slice none 0 0) (rainT T 0).2.length (swC (rainT T 0).2)) := (show World.ownsRow _ _ _ _ _ 0 [] from World.ownsRow_nil w1 _ _ _)
  have zp : w.heap.size < w1.heap.size := by omega
  clear O1 b1 HTC HR hn s1 z1
  obtain ⟨p, hp⟩ : ∃ z, z = w.heap.size := ⟨_, rfl⟩
  obtain ⟨B, hB⟩ : ∃ z, z = w1.heap.size := ⟨_, rfl⟩
  rw [← hp] at HTb zp HL ⊢
  rw [← hB] at HTb HL HO zp
  have HPB : Hid (p = w.heap.size ∧ B = w1.heap.size) := ⟨hp, hB⟩
  clear hp hB
  go_wp2_with fail
  go_loopw [4, 11] (fun vc i wx => ∃ k : Nat, k ≤ T.length ∧ i = .int .i64 k ∧ Hid (LfA p B wx (rainT T k).1) ∧ Hid (wx.ownsRow B 36 2 vc (rainT T k).2.length (swC (rainT T k).2)) ∧ Hid (Fr p B w1 wx)) (fun _ i _ => T.length - (intOf i).toNat)
  case atStart => exact ⟨0, Nat.zero_le _, rfl, HL, HO, Fr.refl _ _ _⟩
  case round =>
    clear HL HO
    obtain ⟨k, hk, rfl, HL, HO, HF⟩ := hrel
    have hl := rainT_len T k
    by_cases hlt : k < T.length
    · have k1 : (k : Int) < (T.length : Int) := by omega
      obtain ⟨tg, tp, e9, htz, htc⟩ := HF.out.row HT.out HTb.out k hlt
      subst e9
      have HBs : Hid (Bd 100000 ((rainT T k).1 ++ [nthI T k])) := bd_snoc (bd_rainT (by decide) HBd.out k) (bd_nth (by decide) HBd.out k)
      have HE : Hid (rainT T (k + 1) = ((rainIn ((rainT T k).1 ++ [nthI T k])).1, (rainT T k).2 ++ (rainIn ((rainT T k).1 ++ [nthI T k])).2)) := rfl
      have hl9 := rainT_len T (k + 1)
      rw [HE.out] at hl9
      obtain ⟨s0, hs0⟩ : ∃ z, (rainT T k).1 = z := ⟨_, rfl⟩
      obtain ⟨o0, ho0⟩ : ∃ z, (rainT T k).2 = z := ⟨_, rfl⟩
      obtain ⟨x0, hx0⟩ : ∃ z, nthI T k = z := ⟨_, rfl⟩
      rw [hs0] at HL hl HBs HE hl9
      rw [ho0] at HO hl HE hl9
      rw [hx0] at HBs HE htc hl9
      clear hs0 ho0 hx0
      have hs4 : (s0 ++ [x0]).length ≤ 401 := by simp; omega
      have hr4 : (rainIn (s0 ++ [x0])).2.length ≤ 1000 := by simp only [List.length_append] at hl9; omega
      rename World => wb
      go_wp2_with fail
      refine (lay_anyR p B s0 x0 _ (by omega) HL).mono ?_
      rintro e wc ⟨rfl, HL2, HF2⟩
      replace HL2 : Hid (LfA p B wc (s0 ++ [x0])) := HL2
      replace HO : Hid (wc.ownsRow B 36 2 u4 o0.length (swC o0)) := HF2.own HO.out zp
      replace HF : Hid (Fr p B w1 wc) := HF.out.trans HF2
      clear HF2 HL htc
      go_wp2_with fail
      refine (closedSwings_any p B (s0 ++ [x0]) _ hs4 HBs HL2).mono ?_
      rintro e wd h9
      unfold ClP at h9
      obtain ⟨vx, rfl, hO9, hL9, hF9⟩ := h9
      have HX : Hid (wd.ownsRow wc.heap.size 36 2 vx (rainIn (s0 ++ [x0])).2.length (swC (rainIn (s0 ++ [x0])).2)) := hO9
      replace HO : Hid (wd.ownsRow B 36 2 u4 o0.length (swC o0)) := hF9.own HO.out zp
      replace HF : Hid (Fr p B w1 wd) := HF.out.trans hF9
      replace HL2 : Hid (LfA p B wd (rainIn (s0 ++ [x0])).1) := hL9
      have zB : B ≤ wd.heap.size := HL2.out.2.1
      have hsl : ∃ ss cs, vx = .slice ss (rainIn (s0 ++ [x0])).2.length cs := own_val HX.out
      obtain ⟨sx, cx, rfl⟩ := hsl
      have hsl2 : ∃ ss cs, u4 = .slice ss o0.length cs := own_val HO.out
      obtain ⟨sy, cy, rfl⟩ := hsl2
      clear hO9 hL9 hF9
      go_upto_region 8 with (at_builtin; refine list_joinSw B _ o0 wc.heap.size _ (rainIn (s0 ++ [x0])).2 (.tmp 17) (.tmp 18) (by rfl) (by rfl) (by rfl) (by rfl) HO.out HX.out (by omega) (by omega) zB ?_; intro v7 w7 hown7 hgrow7)
      have HL7 : Hid (LfA p B w7 (rainT T (k + 1)).1) := by show LfA _ _ _ _; rw [HE.out]; exact HL2.out.grown HO.out zp hgrow7
      have HF7 : Hid (Fr p B w1 w7) := Fr.listB HF.out HO.out (by rw [HPB.out.2]; exact Nat.le_refl _) hgrow7
      have HO7 : Hid (w7.ownsRow B 36 2 v7 (rainT T (k + 1)).2.length (swC (rainT T (k + 1)).2)) := by show World.ownsRow _ _ _ _ _ _ _; rw [HE.out]; exact hown7
      clear hown7 hgrow7 HX HO HF HL2
      go_wp2
      go_roundw
      case rel => exact ⟨k + 1, by omega, by go_num, HL7, HO7, HF7⟩
      case measure => simp [intOf]; omega
    · obtain rfl : k = T.length := by omega
      have HBs : Hid (Bd 100000 (rainT T T.length).1) := bd_rainT (by decide) HBd.out _
      have HE : Hid (rainL T = (rainT T T.length).2 ++ restS (rainT T T.length).1 ((rainT T T.length).1.length - 1)) := rfl
      obtain ⟨S, hS⟩ : ∃ z, (rainT T T.length).1 = z := ⟨_, rfl⟩
      obtain ⟨O, hO⟩ : ∃ z, (rainT T T.length).2 = z := ⟨_, rfl⟩
      rw [hS] at HL HE hl HBs
      rw [hO] at HO HE hl
      clear hS hO hk hlt HT HTb
      rename World => wa
      have hSO : S.length + O.length ≤ 400 := by omega
      go_wp2_with fail
      go_loopw [4, 7] (fun vc i wx => ∃ j : Nat, i = .int .i64 (j + 1 : Nat) ∧ (j + 1 ≤ S.length ∨ j = 0) ∧ Hid (LfA p B wx S) ∧ Hid (wx.ownsRow B 36 2 vc (O ++ restS S j).length (swC (O ++ restS S j))) ∧ Hid (Fr p B w1 wx)) (fun _ i _ => S.length + 1 - (intOf i).toNat)
      case atStart => exact ⟨0, rfl, .inr rfl, HL, by show World.ownsRow _ _ _ _ _ _ _; simpa [restS] using HO.out, HF⟩
      case round =>
        clear HL HO HF
        obtain ⟨j, rfl, hj, HL, HO, HF⟩ := hrel
        rename World => wq
        go_wp2_with fail
        refine (stkSize_any p B S _ HL).mono ?_
        rintro e wq ⟨rfl, rfl⟩
        rename World => wq
        by_cases hjl : j + 1 < S.length
        case neg =>
          have HE2 : Hid (rainL T = O ++ restS S j) := by
            show _ = _
            rw [HE.out]
            rcases hj with q | q
            · rw [show S.length - 1 = j by omega]
            · subst q; rw [show S.length - 1 = 0 by omega]
          have hjl2 : ¬ ((j + 1 : Nat) : Int) < (S.length : Int) := by omega
          have h7 := HO.out
          rw [← HE2.out] at h7
          obtain ⟨so, co, rfl, ho⟩ := own_Swing h7
          have HO8 : Hid (OwnSwing w.heap.size wq so (rainL T).length (fun q => (rainL T).getD q (0, 0))) := ho.mono (by rw [HPB.out.2]; exact HB1.out.size)
          have hB8 : Below w.heap.size w wq := HB1.out.trans (HF.out.below (by have := HPB.out.1; omega) (by have := HPB.out.2; have := HB1.out.size; omega) HB1.out.size)
          clear h7 ho
          go_wp2
          go_ret
          unfold RainP
          exact ⟨so, co, rfl, HO8.out, hB8⟩
        have hj1 : ((j + 1 : Nat) : Int) < (S.length : Int) := by omega
        obtain ⟨sg, cap, c0, hcap, hrow⟩ := HL.out.row
        obtain ⟨g, oo, e9, hgz, cx⟩ := hrow (j + 1) hjl
        subst e9
        obtain ⟨g', oo', e9, hgz', cy⟩ := hrow j (by omega)
        cases e9
        have bx := bd_nth (by decide) HBs.out (j + 1)
        have by_ := bd_nth (by decide) HBs.out j
        obtain ⟨x, hx⟩ : ∃ z, nthI S (j + 1) = z := ⟨_, rfl⟩
        obtain ⟨y, hy⟩ : ∃ z, nthI S j = z := ⟨_, rfl⟩
        have HX : Hid (restS S (j + 1) = restS S j ++ [(apt y x, 1)]) := by show _ = _; rw [← hx, ← hy, apt_comm]; rfl
        rw [hx] at cx bx
        rw [hy] at cy by_
        have hl2 : (O ++ restS S j).length ≤ 1000 := by rw [List.length_append, rest_len]; omega
        obtain ⟨Q, hQ⟩ : ∃ z, O ++ restS S j = z := ⟨_, rfl⟩
        have HX2 : Hid (O ++ restS S (j + 1) = Q ++ [(apt y x, 1)]) := by show _ = _; rw [HX.out, ← List.append_assoc, hQ]
        rw [hQ] at HO hl2
        clear hQ HX
        obtain ⟨K, hK9⟩ : ∃ z, z = j + 1 := ⟨_, rfl⟩
        rw [← hK9] at cx hx ⊢
        have HXY : Hid (nthI S K = x ∧ nthI S j = y ∧ K < S.length ∧ j < S.length) := ⟨hx, hy, by omega, by omega⟩
        have HKj : Hid (K = j + 1) := hK9
        obtain ⟨Sn, hSn⟩ : ∃ z, z = S.length := ⟨_, rfl⟩
        rw [← hSn] at c0
        have hKj : (K : Int) - 1 = (j : Int) := by omega
        have hKN : (K : Int) < (Sn : Int) := by omega
        have hjN : (j : Int) < (Sn : Int) := by omega
        have hSn4 : (Sn : Int) ≤ 400 := by omega
        have zp2 : p < wq.heap.size := by have := HL.out.1; have := HL.out.2.1; omega
        have hl3 : (Q.length : Int) ≤ 1000 := by omega
        obtain ⟨sy, cy2, rfl⟩ := own_val HO.out
        clear hrow hx hy hcap hK9 hSn hjl
        rw [← HKj.out] at hj1
        go_upto_region 12 with fail
        refine wp_region_held_drew (S := fun w' => w'.cell? ⟨p, 0, none⟩ = some (.slice (some ⟨g, oo, none⟩) Sn cap) ∧ w'.cell? ⟨g, oo + K, none⟩ = some (.int .i64 x) ∧ w'.cell? ⟨g, oo + j, none⟩ = some (.int .i64 y)) (by kernel_rfl) ?_ (fun hHeld => ?_)
        · exact ⟨by simpa [go_sem] using c0, by simpa [go_sem] using cx, by simpa [go_sem] using cy⟩
        refine wpAnyH_take (i := 0) (v := .slice sy Q.length cy2) rfl (by kernel_rfl) (by kernel_rfl) (by kernel_rfl) (fun _ _ _ h => h) (Or.inl ⟨by kernel_rfl, ?_⟩) hHeld ?_
        · intro w' hSw
          obtain ⟨s0_, s1_, s2_⟩ := hSw
          first | (go_simp; done) | (go_simp; with_reducible rfl) | (go_simp; rw [IntKind.wrap_i64]; omega) | (go_simp; omega)
        simp only [Act.put, List.setIfInBounds_toArray, List.set_cons_zero, List.set_cons_succ]
        refine wpAnyH_take (i := 1) (v := .pointer (some ⟨p, 0, none⟩)) rfl (by kernel_rfl) (by kernel_rfl) (by kernel_rfl) (fun _ _ _ h => h) (Or.inl ⟨by kernel_rfl, ?_⟩) hHeld ?_
        · intro w' hSw
          obtain ⟨s0_, s1_, s2_⟩ := hSw
          first | (go_simp; done) | (go_simp; with_reducible rfl) | (go_simp; rw [IntKind.wrap_i64]; omega) | (go_simp; omega)
        simp only [Act.put, List.setIfInBounds_toArray, List.set_cons_zero, List.set_cons_succ]
        refine wpAnyH_take (i := 2) (v := .slice (some ⟨g, oo, none⟩) Sn cap) rfl (by kernel_rfl) (by kernel_rfl) (by kernel_rfl) (fun _ _ _ h => h) (Or.inl ⟨by kernel_rfl, ?_⟩) hHeld ?_
        · intro w' hSw
          obtain ⟨s0_, s1_, s2_⟩ := hSw
          first | (go_simp; done) | (go_simp; with_reducible rfl) | (go_simp; rw [IntKind.wrap_i64]; omega) | (go_simp; omega)
        simp only [Act.put, List.setIfInBounds_toArray, List.set_cons_zero, List.set_cons_succ]
        refine wpAnyH_take (i := 3) (v := .int .i64 (K : Int)) rfl (by kernel_rfl) (by kernel_rfl) (by kernel_rfl) (fun _ _ _ h => h) (Or.inl ⟨by kernel_rfl, ?_⟩) hHeld ?_
        · intro w' hSw
          obtain ⟨s0_, s1_, s2_⟩ := hSw
          first | (go_simp; done) | (go_simp; with_reducible rfl) | (go_simp; rw [IntKind.wrap_i64]; omega) | (go_simp; omega)
        simp only [Act.put, List.setIfInBounds_toArray, List.set_cons_zero, List.set_cons_succ]
        refine wpAnyH_take (i := 4) (v := .int .i64 (j : Int)) rfl (by kernel_rfl) (by kernel_rfl) (by kernel_rfl) (fun _ _ _ h => h) (Or.inl ⟨by kernel_rfl, ?_⟩) hHeld ?_
        · intro w' hSw
          obtain ⟨s0_, s1_, s2_⟩ := hSw
          first | (go_simp; done) | (go_simp; with_reducible rfl) | (go_simp; rw [IntKind.wrap_i64]; omega) | (go_simp; omega)
        simp only [Act.put, List.setIfInBounds_toArray, List.set_cons_zero, List.set_cons_succ]
        refine wpAnyH_take (i := 5) (v := .pointer (some ⟨g, oo + j, none⟩)) rfl (by kernel_rfl) (by kernel_rfl) (by kernel_rfl) (fun _ _ _ h => h) (Or.inl ⟨by kernel_rfl, ?_⟩) hHeld ?_
        · intro w' hSw
          obtain ⟨s0_, s1_, s2_⟩ := hSw
          first | (go_simp; done) | (go_simp; with_reducible rfl) | (go_simp; rw [IntKind.wrap_i64]; omega) | (go_simp; omega)
        simp only [Act.put, List.setIfInBounds_toArray, List.set_cons_zero, List.set_cons_succ]
        refine wpAnyH_take (i := 6) (v := .int .i64 y) rfl (by kernel_rfl) (by kernel_rfl) (by kernel_rfl) (fun _ _ _ h => h) (Or.inl ⟨by kernel_rfl, ?_⟩) hHeld ?_
        · intro w' hSw
          obtain ⟨s0_, s1_, s2_⟩ := hSw
          first | (go_simp; done) | (go_simp; with_reducible rfl) | (go_simp; rw [IntKind.wrap_i64]; omega) | (go_simp; omega)
        simp only [Act.put, List.setIfInBounds_toArray, List.set_cons_zero, List.set_cons_succ]
        refine wpAnyH_take (i := 7) (v := .pointer (some ⟨p, 0, none⟩)) rfl (by kernel_rfl) (by kernel_rfl) (by kernel_rfl) (fun _ _ _ h => h) (Or.inl ⟨by kernel_rfl, ?_⟩) hHeld ?_
        · intro w' hSw
          obtain ⟨s0_, s1_, s2_⟩ := hSw
          first | (go_simp; done) | (go_simp; with_reducible rfl) | (go_simp; rw [IntKind.wrap_i64]; omega) | (go_simp; omega)
        simp only [Act.put, List.setIfInBounds_toArray, List.set_cons_zero, List.set_cons_succ]
        refine wpAnyH_take (i := 8) (v := .slice (some ⟨g, oo, none⟩) Sn cap) rfl (by kernel_rfl) (by kernel_rfl) (by kernel_rfl) (fun _ _ _ h => h) (Or.inl ⟨by kernel_rfl, ?_⟩) hHeld ?_
        · intro w' hSw
          obtain ⟨s0_, s1_, s2_⟩ := hSw
          first | (go_simp; done) | (go_simp; with_reducible rfl) | (go_simp; rw [IntKind.wrap_i64]; omega) | (go_simp; omega)
        simp only [Act.put, List.setIfInBounds_toArray, List.set_cons_zero, List.set_cons_succ]
        refine wpAnyH_take (i := 9) (v := .int .i64 (K : Int)) rfl (by kernel_rfl) (by kernel_rfl) (by kernel_rfl) (fun _ _ _ h => h) (Or.inl ⟨by kernel_rfl, ?_⟩) hHeld ?_
        · intro w' hSw
          obtain ⟨s0_, s1_, s2_⟩ := hSw
          first | (go_simp; done) | (go_simp; with_reducible rfl) | (go_simp; rw [IntKind.wrap_i64]; omega) | (go_simp; omega)
        simp only [Act.put, List.setIfInBounds_toArray, List.set_cons_zero, List.set_cons_succ]
        refine wpAnyH_take (i := 10) (v := .pointer (some ⟨g, oo + K, none⟩)) rfl (by kernel_rfl) (by kernel_rfl) (by kernel_rfl) (fun _ _ _ h => h) (Or.inl ⟨by kernel_rfl, ?_⟩) hHeld ?_
        · intro w' hSw
          obtain ⟨s0_, s1_, s2_⟩ := hSw
          first | (go_simp; done) | (go_simp; with_reducible rfl) | (go_simp; rw [IntKind.wrap_i64]; omega) | (go_simp; omega)
        simp only [Act.put, List.setIfInBounds_toArray, List.set_cons_zero, List.set_cons_succ]
        refine wpAnyH_take (i := 11) (v := .int .i64 x) rfl (by kernel_rfl) (by kernel_rfl) (by kernel_rfl) (fun _ _ _ h => h) (Or.inl ⟨by kernel_rfl, ?_⟩) hHeld ?_
        · intro w' hSw
          obtain ⟨s0_, s1_, s2_⟩ := hSw
          first | (go_simp; done) | (go_simp; with_reducible rfl) | (go_simp; rw [IntKind.wrap_i64]; omega) | (go_simp; omega)
        simp only [Act.put, List.setIfInBounds_toArray, List.set_cons_zero, List.set_cons_succ]
        obtain ⟨v0, hv0⟩ : ∃ z, z = wq.drew := ⟨_, rfl⟩
        rw [← hv0] at hHeld ⊢
        have bv0 : Below wq.heap.size wq v0 := by rw [hv0]; exact Below.drew (Below.refl _ _)
        clear hv0
        have HB9 : Hid (Below wq.heap.size wq v0) := bv0
        clear bv0
        refine wpAnyH_ready (rs := [12]) (by kernel_rfl) (by simp) ?_
        refine (AllReadyH.cons rfl (fun KK hK => ?_) AllReadyH.nil)
        go_simp
        go_wp2_with (first | (go_at_call 40; refine (swingOf_any 1 y x _ by_ bx).mono ?_; rintro e v0_1 ⟨rfl, b9⟩; replace HB9 : Hid (Below wq.heap.size wq v0_1) := HB9.out.trans (b9.mono HB9.out.size); clear b9))
        refine hK.out _ _ (⟨(HB9.out.cell (p := ⟨p, 0, none⟩) zp2).trans c0, (HB9.out.cell (p := ⟨g, oo + K, none⟩) hgz).trans cx, (HB9.out.cell (p := ⟨g, oo + j, none⟩) hgz).trans cy⟩) (fun hHeld => ?_)
        clear hK KK
        refine wpAnyH_ready (rs := [13]) (by kernel_rfl) (by simp) ?_
        refine (AllReadyH.cons rfl (fun KK hK => ?_) AllReadyH.nil)
        go_simp
        obtain ⟨v0_2, hv_⟩ : ∃ z, z = v0_1.alloc (.cells #[.int .i64 (apt y x), .int .i64 1] 36) := ⟨_, rfl⟩
        rw [← hv_]
        obtain ⟨lb, hlb⟩ : ∃ z, z = v0_1.heap.size := ⟨_, rfl⟩
        have hb9 : Below wq.heap.size wq v0_2 := by rw [hv_]; exact Below.trans HB9.out ((below0 _ _).mono HB9.out.size)
        have LB0 : v0_2.cell? ⟨lb, 0, none⟩ = some (.int .i64 (apt y x)) := by rw [hv_, hlb]; simp [go_sem]
        have LB1 : v0_2.cell? ⟨lb, 1, none⟩ = some (.int .i64 1) := by rw [hv_, hlb]; simp [go_sem]
        replace HB9 : Hid (Below wq.heap.size wq v0_2) := hb9
        try rw [← hlb]
        clear hv_ hlb hb9
        refine hK.out _ _ (⟨(HB9.out.cell (p := ⟨p, 0, none⟩) zp2).trans c0, (HB9.out.cell (p := ⟨g, oo + K, none⟩) hgz).trans cx, (HB9.out.cell (p := ⟨g, oo + j, none⟩) hgz).trans cy⟩) (fun hHeld => ?_)
        clear hK KK
        refine wpAnyH_ready (rs := [14]) (by kernel_rfl) (by simp) ?_
        refine (AllReadyH.cons rfl (fun KK hK => ?_) AllReadyH.nil)
        obtain ⟨i0, hi, hz0, hz1, hz2⟩ := info_parts info_Swing
        have zB9 := HB9.out.size
        have zL9 := HL.out.2.1
        refine wp_append_own _ (.tmp 26) (.tmp 39) 23 (by rfl) B 36 i0 (.agg #[.int .i64 0, .int .i64 0]) 2 16 Try.underlying23 hi hz0 hz1 hz2 rfl (by decide) _ Q.length (swC Q) (by rfl) (own_below HO.out HB9.out) ⟨lb, 0, none⟩ 1 1 [.int .i64 (apt y x), .int .i64 1] (by rfl) rfl (news_two LB0 LB1) (by intro u hu; simp at hu; rcases hu with rfl | rfl <;> rfl) (by unfold maxLen; omega) (by omega) (by omega) ?_
        intro v9 v0_3 hown9 hgrow9 _
        have HL9 : Hid (LfA p B v0_3 S) := (HL.out.below HB9.out).grown (own_below HO.out HB9.out) zp hgrow9
        have HF9 : Hid (Fr p B w1 v0_3) := Fr.listB (HF.out.trans (Fr.of HB9.out)) (own_below HO.out HB9.out) (by rw [HPB.out.2]; exact Nat.le_refl _) hgrow9
        have HO9 : Hid (v0_3.ownsRow B 36 2 v9 (O ++ restS S (j + 1)).length (swC (O ++ restS S (j + 1)))) := by show World.ownsRow _ _ _ _ _ _ _; rw [HX2.out, swC_app, List.length_append]; exact hown9
        obtain ⟨sq, cq, c9, -, hrow9⟩ := HL9.out.row
        have e9 := HL9.out
        have BK9 : v0_3.cell? ⟨p, 0, none⟩ = v0_2.cell? ⟨p, 0, none⟩ ∧ (∀ q, v0_3.cell? ⟨g, q, none⟩ = v0_2.cell? ⟨g, q, none⟩) := stk_same (HL.out.below HB9.out) ((HB9.out.cell (p := ⟨p, 0, none⟩) zp2).trans c0) (own_below HO.out HB9.out) zp hgrow9
        have c0_ : v0_3.cell? ⟨p, 0, none⟩ = some (.slice (some ⟨g, oo, none⟩) Sn cap) := BK9.1.trans ((HB9.out.cell (p := ⟨p, 0, none⟩) zp2).trans c0)
        have cx_ : v0_3.cell? ⟨g, oo + K, none⟩ = some (.int .i64 x) := (BK9.2 _).trans ((HB9.out.cell (p := ⟨g, oo + K, none⟩) hgz).trans cx)
        have cy_ : v0_3.cell? ⟨g, oo + j, none⟩ = some (.int .i64 y) := (BK9.2 _).trans ((HB9.out.cell (p := ⟨g, oo + j, none⟩) hgz).trans cy)
        clear hown9 hgrow9 HB9 LB0 LB1 zB9 zL9 hi hz0 hz1 hz2 e9 hrow9 BK9 c9
        go_simp
        refine hK.out _ _ (⟨c0_, cx_, cy_⟩) (fun hHeld => ?_)
        clear hK KK
        refine wpAnyH_ready (rs := [15]) (by kernel_rfl) (by simp) ?_
        refine AllReadyH.cons rfl (fun KK hK => ?_) AllReadyH.nil
        go_simp
        refine hK.out _ _ hHeld (fun hHeld => ?_)
        clear hK KK
        refine wpAnyH_done (by kernel_rfl) ?_ _
        clear hHeld
        obtain ⟨sv, cv, rfl⟩ := own_val HO9.out
        clear c0_ cx_ cy_ HL HO HF c0 cx cy
        go_wp2
        go_roundw
        case rel => exact ⟨j + 1, by rw [HKj.out]; go_num, .inl (by have := HXY.out.2.2; omega), HL9, HO9, HF9⟩
        case measure => have := HXY.out.2.2; simp [intOf]; omega
end Go.Proofs.Ythengechoaodcaa
