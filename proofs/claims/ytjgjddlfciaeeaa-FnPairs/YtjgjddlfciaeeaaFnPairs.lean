/-
What is proved: of two pairs that are drawn from every code the product does not ask which stands first, nor the sum; a pair less itself is 0 where it is known; the power of a known pair with itself has the imaginary part 0 where the real one is known; no condition.
-/
import Derived.Test.YtjgjddlfciaeeaaPaD
import Derived.Test.YtjgjddlfciaeeaaPaN
import Derived.Test.YtjgjddlfciaeeaaSmP
import Derived.Test.YtjgjddlfciaeeaaIMulT
import Derived.Test.YtjgjddlfciaeeaaIAddT
import Derived.Test.YtjgjddlfciaeeaaISubT
import Derived.Test.YtjgjddlfciaeeaaPowT
import Derived.Test.YtjgjddlfciaeeaaKnownS
import Derived.Test.YtjgjddlfciaeeaaOpen8
import Derived.Deep.DeepCutAuto
namespace Go.Proofs.Ytjgjddlfciaeeaa
set_option maxRecDepth 40000
open Go.ChangeShapes Go.WideShapes Go.ChangeAt Go.RowKit
set_option linter.unusedVariables false
set_option linter.unusedSimpArgs false

set_option maxHeartbeats 400000 in
theorem pairs_far (w : World) (s : Option Addr) (n c : Nat) (h : (1048576 : Int) < n) :
    Calls Try.prog 3 #[.slice s n c] w fun e w' => e = .returned (.bool true) ∧ Below w.heap.size w w' := by
  go_enter Try.func3, Try.ntmps3
  go_wp2_with fail
  refine (big_yes _ _ _ _ h).mono ?_
  rintro e w1 ⟨rfl, rfl⟩
  go_wp2
  go_ret
  exact ⟨rfl, Below.refl _ _⟩
theorem fl_val {r v : Nat} (h : Fl r (some v)) : r = v := by
  rcases h.2 with ⟨_, e⟩ | ⟨_, e⟩
  · exact (Option.some.inj e).symm
  · cases e
theorem power_known {o p : Option Nat} {r i : Nat} (PS : (∃ v, p = some v ∧ rg v = 0) ∨ (∃ v, o = some v ∧ rg v = INF)) (f : Fl r o) (g : Fl i p) (hk : knownB r = true) : (FloatKind.f64.format.order i 0 == some .eq) = true := by
  rcases PS with ⟨v, e, hv⟩ | ⟨v, e, hv⟩
  · rw [e] at g
    obtain rfl : i = v := fl_val g
    rw [order_zero (by omega), if_pos hv]
    rfl
  · rw [e] at f
    obtain rfl : r = v := fl_val f
    have : rg r < INF := of_decide_eq_true hk
    omega
set_option maxRecDepth 20000 in
set_option maxHeartbeats 8000000 in
theorem pairs_near (w : World) (s : Option Addr) (n c : Nat) (h : (n : Int) ≤ 1048576) (HC : Hid (Code8 w s n)) :
    Calls Try.prog 3 #[.slice s n c] w fun e w' => e = .returned (.bool true) ∧ Below w.heap.size w w' := by
  go_enter Try.func3, Try.ntmps3
  go_wp2_with fail
  refine (big_no _ _ _ _ h).mono ?_
  rintro e w1 ⟨rfl, rfl⟩
  have HB : Hid (Below w1.heap.size w1 w1) := Below.refl _ _
  have hst := store_fp
  go_wp2_with fail
  refine (drawMulPair_any HC).mono ?_
  rintro e wv1 ⟨x, y, z, u, rfl, hb, h_⟩
  replace HB : Hid (Below w1.heap.size w1 wv1) := HB.out.trans (h_.mono HB.out.size)
  clear h_
  obtain ⟨lx, ly, lz, lu⟩ := hb
  obtain ⟨a, fa_⟩ : ∃ o, Fl x o := ⟨_, fl_of x lx⟩
  have fa : Hid (Fl x a) := fa_
  clear fa_
  obtain ⟨b, fb_⟩ : ∃ o, Fl y o := ⟨_, fl_of y ly⟩
  have fb : Hid (Fl y b) := fb_
  clear fb_
  obtain ⟨c_, fc_⟩ : ∃ o, Fl z o := ⟨_, fl_of z lz⟩
  have fc : Hid (Fl z c_) := fc_
  clear fc_
  obtain ⟨d, fd_⟩ : ∃ o, Fl u o := ⟨_, fl_of u lu⟩
  have fd : Hid (Fl u d) := fd_
  clear fd_
  go_upto_region 4 with fail
  obtain ⟨wv2, hwa_⟩ : ∃ x_, x_ = wv1.alloc (.cells #[.float .f64 x, .float .f64 y] 26) := ⟨_, rfl⟩
  obtain ⟨wv3, hwb_⟩ : ∃ x_, x_ = wv2.alloc (.cells #[.float .f64 z, .float .f64 u] 26) := ⟨_, rfl⟩
  rw [← hwa_, ← hwb_]
  have zA_ : wv2.heap.size = wv1.heap.size + 1 := by rw [hwa_]; simp
  have Ha : Hid (Blk wv3 wv1.heap.size [.float .f64 x, .float .f64 y]) := by show Blk _ _ _; rw [hwb_]; exact Blk.below (by rw [hwa_]; exact Blk.new wv1 #[.float .f64 x, .float .f64 y] _) (below0 _ _)
  have Hb : Hid (Blk wv3 (wv1.heap.size + 1) [.float .f64 z, .float .f64 u]) := by show Blk _ _ _; rw [← zA_, hwb_]; exact Blk.new wv2 #[.float .f64 z, .float .f64 u] _
  have bl_ : Below wv1.heap.size wv1 wv3 := by rw [hwb_, hwa_]; exact Below.trans (below0 _ _) ((below0 _ _).mono (by simp))
  clear hwa_ hwb_ zA_
  replace HB : Hid (Below w1.heap.size w1 wv3) := HB.out.trans (bl_.mono HB.out.size)
  obtain ⟨ga, hga_⟩ : ∃ g, g = wv1.heap.size := ⟨_, rfl⟩
  rw [← hga_] at Ha Hb ⊢
  obtain ⟨gb, hgb_⟩ : ∃ g, g = ga + 1 := ⟨_, rfl⟩
  rw [← hgb_] at Hb ⊢
  clear hga_ hgb_ bl_
  obtain ⟨z_a, f_a, c_a⟩ := Ha.out
  have ac0 : wv3.cell? ⟨ga, 0, none⟩ = some (.float .f64 x) := c_a 0 _ rfl
  have ac1 : wv3.cell? ⟨ga, 1, none⟩ = some (.float .f64 y) := c_a 1 _ rfl
  clear f_a c_a
  obtain ⟨z_b, f_b, c_b⟩ := Hb.out
  have bc0 : wv3.cell? ⟨gb, 0, none⟩ = some (.float .f64 z) := c_b 0 _ rfl
  have bc1 : wv3.cell? ⟨gb, 1, none⟩ = some (.float .f64 u) := c_b 1 _ rfl
  clear f_b c_b
  go_wp2_with fail
  refine (implMulPair_any fa.out fb.out fc.out fd.out _).mono ?_
  rintro e wv4 ⟨r1, i1, rfl, f1_, g1_, h_⟩
  replace Ha : Hid (Blk wv4 ga [.float .f64 x, .float .f64 y]) := Ha.out.below h_
  replace Hb : Hid (Blk wv4 gb [.float .f64 z, .float .f64 u]) := Hb.out.below h_
  replace HB : Hid (Below w1.heap.size w1 wv4) := HB.out.trans (h_.mono HB.out.size)
  clear h_
  clear ac0 ac1 z_a
  clear bc0 bc1 z_b
  have f1 : Hid (Fl r1 (mulRe a b c_ d)) := f1_
  have g1 : Hid (Fl i1 (mulIm a b c_ d)) := g1_
  clear f1_ g1_
  go_upto_region 5 with fail
  obtain ⟨wv5, hw_⟩ : ∃ x_, x_ = wv4.alloc (.cells #[.float .f64 r1, .float .f64 i1] 26) := ⟨_, rfl⟩
  rw [← hw_]
  have Hp : Hid (Blk wv5 wv4.heap.size [.float .f64 r1, .float .f64 i1]) := by show Blk _ _ _; rw [hw_]; exact Blk.new wv4 #[.float .f64 r1, .float .f64 i1] _
  have bl_ : Below wv4.heap.size wv4 wv5 := by rw [hw_]; exact below0 _ _
  clear hw_
  replace Ha : Hid (Blk wv5 ga [.float .f64 x, .float .f64 y]) := Ha.out.below bl_
  replace Hb : Hid (Blk wv5 gb [.float .f64 z, .float .f64 u]) := Hb.out.below bl_
  replace HB : Hid (Below w1.heap.size w1 wv5) := HB.out.trans (bl_.mono HB.out.size)
  obtain ⟨gp, hg_⟩ : ∃ g, g = wv4.heap.size := ⟨_, rfl⟩
  rw [← hg_] at Hp ⊢
  clear hg_ bl_
  obtain ⟨z_a, f_a, c_a⟩ := Ha.out
  have ac0 : wv5.cell? ⟨ga, 0, none⟩ = some (.float .f64 x) := c_a 0 _ rfl
  have ac1 : wv5.cell? ⟨ga, 1, none⟩ = some (.float .f64 y) := c_a 1 _ rfl
  clear f_a c_a
  obtain ⟨z_b, f_b, c_b⟩ := Hb.out
  have bc0 : wv5.cell? ⟨gb, 0, none⟩ = some (.float .f64 z) := c_b 0 _ rfl
  have bc1 : wv5.cell? ⟨gb, 1, none⟩ = some (.float .f64 u) := c_b 1 _ rfl
  clear f_b c_b
  go_wp2_with fail
  refine (implMulPair_any fc.out fd.out fa.out fb.out _).mono ?_
  rintro e wv6 ⟨r2, i2, rfl, f2_, g2_, h_⟩
  replace Ha : Hid (Blk wv6 ga [.float .f64 x, .float .f64 y]) := Ha.out.below h_
  replace Hb : Hid (Blk wv6 gb [.float .f64 z, .float .f64 u]) := Hb.out.below h_
  replace Hp : Hid (Blk wv6 gp [.float .f64 r1, .float .f64 i1]) := Hp.out.below h_
  replace HB : Hid (Below w1.heap.size w1 wv6) := HB.out.trans (h_.mono HB.out.size)
  clear h_
  clear ac0 ac1 z_a
  clear bc0 bc1 z_b
  have f2 : Hid (Fl r2 (mulRe a b c_ d)) := by show Fl _ _; rw [mulRe_comm]; exact f2_
  have g2 : Hid (Fl i2 (mulIm a b c_ d)) := by show Fl _ _; rw [mulIm_comm]; exact g2_
  clear f2_ g2_
  go_upto_region 6 with fail
  obtain ⟨wv7, hw_⟩ : ∃ x_, x_ = wv6.alloc (.cells #[.float .f64 r2, .float .f64 i2] 26) := ⟨_, rfl⟩
  rw [← hw_]
  have Hq : Hid (Blk wv7 wv6.heap.size [.float .f64 r2, .float .f64 i2]) := by show Blk _ _ _; rw [hw_]; exact Blk.new wv6 #[.float .f64 r2, .float .f64 i2] _
  have bl_ : Below wv6.heap.size wv6 wv7 := by rw [hw_]; exact below0 _ _
  clear hw_
  replace Ha : Hid (Blk wv7 ga [.float .f64 x, .float .f64 y]) := Ha.out.below bl_
  replace Hb : Hid (Blk wv7 gb [.float .f64 z, .float .f64 u]) := Hb.out.below bl_
  replace Hp : Hid (Blk wv7 gp [.float .f64 r1, .float .f64 i1]) := Hp.out.below bl_
  replace HB : Hid (Below w1.heap.size w1 wv7) := HB.out.trans (bl_.mono HB.out.size)
  obtain ⟨gq, hg_⟩ : ∃ g, g = wv6.heap.size := ⟨_, rfl⟩
  rw [← hg_] at Hq ⊢
  clear hg_ bl_
  obtain ⟨z_a, f_a, c_a⟩ := Ha.out
  have ac0 : wv7.cell? ⟨ga, 0, none⟩ = some (.float .f64 x) := c_a 0 _ rfl
  have ac1 : wv7.cell? ⟨ga, 1, none⟩ = some (.float .f64 y) := c_a 1 _ rfl
  clear f_a c_a
  obtain ⟨z_b, f_b, c_b⟩ := Hb.out
  have bc0 : wv7.cell? ⟨gb, 0, none⟩ = some (.float .f64 z) := c_b 0 _ rfl
  have bc1 : wv7.cell? ⟨gb, 1, none⟩ = some (.float .f64 u) := c_b 1 _ rfl
  clear f_b c_b
  go_wp2_with fail
  refine (implAddPair_any fa.out fb.out fc.out fd.out _).mono ?_
  rintro e wv8 ⟨r5, i5, rfl, f5_, g5_, h_⟩
  replace Ha : Hid (Blk wv8 ga [.float .f64 x, .float .f64 y]) := Ha.out.below h_
  replace Hb : Hid (Blk wv8 gb [.float .f64 z, .float .f64 u]) := Hb.out.below h_
  replace Hp : Hid (Blk wv8 gp [.float .f64 r1, .float .f64 i1]) := Hp.out.below h_
  replace Hq : Hid (Blk wv8 gq [.float .f64 r2, .float .f64 i2]) := Hq.out.below h_
  replace HB : Hid (Below w1.heap.size w1 wv8) := HB.out.trans (h_.mono HB.out.size)
  clear h_
  clear ac0 ac1 z_a
  clear bc0 bc1 z_b
  have f5 : Hid (Fl r5 (opO .add a c_)) := f5_
  have g5 : Hid (Fl i5 (opO .add b d)) := g5_
  clear f5_ g5_
  go_upto_region 7 with fail
  obtain ⟨wv9, hw_⟩ : ∃ x_, x_ = wv8.alloc (.cells #[.float .f64 r5, .float .f64 i5] 26) := ⟨_, rfl⟩
  rw [← hw_]
  have Hs : Hid (Blk wv9 wv8.heap.size [.float .f64 r5, .float .f64 i5]) := by show Blk _ _ _; rw [hw_]; exact Blk.new wv8 #[.float .f64 r5, .float .f64 i5] _
  have bl_ : Below wv8.heap.size wv8 wv9 := by rw [hw_]; exact below0 _ _
  clear hw_
  replace Ha : Hid (Blk wv9 ga [.float .f64 x, .float .f64 y]) := Ha.out.below bl_
  replace Hb : Hid (Blk wv9 gb [.float .f64 z, .float .f64 u]) := Hb.out.below bl_
  replace Hp : Hid (Blk wv9 gp [.float .f64 r1, .float .f64 i1]) := Hp.out.below bl_
  replace Hq : Hid (Blk wv9 gq [.float .f64 r2, .float .f64 i2]) := Hq.out.below bl_
  replace HB : Hid (Below w1.heap.size w1 wv9) := HB.out.trans (bl_.mono HB.out.size)
  obtain ⟨gs, hg_⟩ : ∃ g, g = wv8.heap.size := ⟨_, rfl⟩
  rw [← hg_] at Hs ⊢
  clear hg_ bl_
  have E1 := fl_eq f1.out f2.out
  have E2 := fl_eq g1.out g2.out
  rcases E1 with e1 | ⟨e1, e1n⟩
  · skip
    rcases E2 with e2 | ⟨e2, e2n⟩
    · skip
      refine wp_region_held_drew (S := fun w' => w'.cell? ⟨gp, 0, none⟩ = some (.float .f64 r1) ∧ w'.cell? ⟨gp, 1, none⟩ = some (.float .f64 i1) ∧ w'.cell? ⟨gq, 0, none⟩ = some (.float .f64 r2) ∧ w'.cell? ⟨gq, 1, none⟩ = some (.float .f64 i2) ∧ w'.cell? ⟨ga, 0, none⟩ = some (.float .f64 x) ∧ w'.cell? ⟨ga, 1, none⟩ = some (.float .f64 y) ∧ w'.cell? ⟨gb, 0, none⟩ = some (.float .f64 z) ∧ w'.cell? ⟨gb, 1, none⟩ = some (.float .f64 u) ∧ w'.cell? ⟨gs, 0, none⟩ = some (.float .f64 r5) ∧ w'.cell? ⟨gs, 1, none⟩ = some (.float .f64 i5)) (by kernel_rfl) ?_ (fun hHeld => ?_)
      · exact ⟨(Hp.out.below (show Below wv9.heap.size wv9 _ from (by repeat (first | with_reducible exact Below.refl _ _ | with_reducible refine Below.setCell ?_ (by first | omega | (simp; done) | (simp; omega)) _ | with_reducible refine bDrewN ?_ _ | with_reducible refine Below.drew ?_ | with_reducible refine Below.alloc ?_ (by first | omega | (simp; done) | (simp; omega)) _)))).2.2 0 _ rfl, (Hp.out.below (show Below wv9.heap.size wv9 _ from (by repeat (first | with_reducible exact Below.refl _ _ | with_reducible refine Below.setCell ?_ (by first | omega | (simp; done) | (simp; omega)) _ | with_reducible refine bDrewN ?_ _ | with_reducible refine Below.drew ?_ | with_reducible refine Below.alloc ?_ (by first | omega | (simp; done) | (simp; omega)) _)))).2.2 1 _ rfl, (Hq.out.below (show Below wv9.heap.size wv9 _ from (by repeat (first | with_reducible exact Below.refl _ _ | with_reducible refine Below.setCell ?_ (by first | omega | (simp; done) | (simp; omega)) _ | with_reducible refine bDrewN ?_ _ | with_reducible refine Below.drew ?_ | with_reducible refine Below.alloc ?_ (by first | omega | (simp; done) | (simp; omega)) _)))).2.2 0 _ rfl, (Hq.out.below (show Below wv9.heap.size wv9 _ from (by repeat (first | with_reducible exact Below.refl _ _ | with_reducible refine Below.setCell ?_ (by first | omega | (simp; done) | (simp; omega)) _ | with_reducible refine bDrewN ?_ _ | with_reducible refine Below.drew ?_ | with_reducible refine Below.alloc ?_ (by first | omega | (simp; done) | (simp; omega)) _)))).2.2 1 _ rfl, (Ha.out.below (show Below wv9.heap.size wv9 _ from (by repeat (first | with_reducible exact Below.refl _ _ | with_reducible refine Below.setCell ?_ (by first | omega | (simp; done) | (simp; omega)) _ | with_reducible refine bDrewN ?_ _ | with_reducible refine Below.drew ?_ | with_reducible refine Below.alloc ?_ (by first | omega | (simp; done) | (simp; omega)) _)))).2.2 0 _ rfl, (Ha.out.below (show Below wv9.heap.size wv9 _ from (by repeat (first | with_reducible exact Below.refl _ _ | with_reducible refine Below.setCell ?_ (by first | omega | (simp; done) | (simp; omega)) _ | with_reducible refine bDrewN ?_ _ | with_reducible refine Below.drew ?_ | with_reducible refine Below.alloc ?_ (by first | omega | (simp; done) | (simp; omega)) _)))).2.2 1 _ rfl, (Hb.out.below (show Below wv9.heap.size wv9 _ from (by repeat (first | with_reducible exact Below.refl _ _ | with_reducible refine Below.setCell ?_ (by first | omega | (simp; done) | (simp; omega)) _ | with_reducible refine bDrewN ?_ _ | with_reducible refine Below.drew ?_ | with_reducible refine Below.alloc ?_ (by first | omega | (simp; done) | (simp; omega)) _)))).2.2 0 _ rfl, (Hb.out.below (show Below wv9.heap.size wv9 _ from (by repeat (first | with_reducible exact Below.refl _ _ | with_reducible refine Below.setCell ?_ (by first | omega | (simp; done) | (simp; omega)) _ | with_reducible refine bDrewN ?_ _ | with_reducible refine Below.drew ?_ | with_reducible refine Below.alloc ?_ (by first | omega | (simp; done) | (simp; omega)) _)))).2.2 1 _ rfl, (Hs.out.below (show Below wv9.heap.size wv9 _ from (by repeat (first | with_reducible exact Below.refl _ _ | with_reducible refine Below.setCell ?_ (by first | omega | (simp; done) | (simp; omega)) _ | with_reducible refine bDrewN ?_ _ | with_reducible refine Below.drew ?_ | with_reducible refine Below.alloc ?_ (by first | omega | (simp; done) | (simp; omega)) _)))).2.2 0 _ rfl, (Hs.out.below (show Below wv9.heap.size wv9 _ from (by repeat (first | with_reducible exact Below.refl _ _ | with_reducible refine Below.setCell ?_ (by first | omega | (simp; done) | (simp; omega)) _ | with_reducible refine bDrewN ?_ _ | with_reducible refine Below.drew ?_ | with_reducible refine Below.alloc ?_ (by first | omega | (simp; done) | (simp; omega)) _)))).2.2 1 _ rfl⟩
      refine wpAnyH_take (i := 0) (v := .agg #[.float .f64 r1, .float .f64 i1]) rfl (by kernel_rfl) (by kernel_rfl) (by kernel_rfl) (fun _ _ _ h => h) (Or.inl ⟨by kernel_rfl, ?_⟩) hHeld ?_
      · intro w' hSw
        obtain ⟨sp0_, sp1_, sq0_, sq1_, sa0_, sa1_, sb0_, sb1_, ss0_, ss1_⟩ := hSw
        first | (go_simp; done) | (go_simp; with_reducible rfl) | (go_simp; rw [IntKind.wrap_i64]; omega) | (go_simp; omega)
      simp only [Act.put, List.setIfInBounds_toArray, List.set_cons_zero, List.set_cons_succ]
      refine wpAnyH_take (i := 1) (v := .agg #[.float .f64 x, .float .f64 y]) rfl (by kernel_rfl) (by kernel_rfl) (by kernel_rfl) (fun _ _ _ h => h) (Or.inl ⟨by kernel_rfl, ?_⟩) hHeld ?_
      · intro w' hSw
        obtain ⟨sp0_, sp1_, sq0_, sq1_, sa0_, sa1_, sb0_, sb1_, ss0_, ss1_⟩ := hSw
        first | (go_simp; done) | (go_simp; with_reducible rfl) | (go_simp; rw [IntKind.wrap_i64]; omega) | (go_simp; omega)
      simp only [Act.put, List.setIfInBounds_toArray, List.set_cons_zero, List.set_cons_succ]
      refine wpAnyH_take (i := 2) (v := .agg #[.float .f64 z, .float .f64 u]) rfl (by kernel_rfl) (by kernel_rfl) (by kernel_rfl) (fun _ _ _ h => h) (Or.inl ⟨by kernel_rfl, ?_⟩) hHeld ?_
      · intro w' hSw
        obtain ⟨sp0_, sp1_, sq0_, sq1_, sa0_, sa1_, sb0_, sb1_, ss0_, ss1_⟩ := hSw
        first | (go_simp; done) | (go_simp; with_reducible rfl) | (go_simp; rw [IntKind.wrap_i64]; omega) | (go_simp; omega)
      simp only [Act.put, List.setIfInBounds_toArray, List.set_cons_zero, List.set_cons_succ]
      refine wpAnyH_ready (rs := [3]) (by kernel_rfl) (by simp) ?_
      refine AllReadyH.cons rfl (fun KK hK => ?_) AllReadyH.nil
      go_simp
      go_wp2_with (first | (go_at_call 14; refine (specMulPair_any fa.out fb.out fc.out fd.out _).mono ?_; rintro e w7 ⟨r3, i3, rfl, f3_, g3_, h7⟩; have f3 : Hid (Fl r3 (mulRe a b c_ d)) := f3_; have g3 : Hid (Fl i3 (mulIm a b c_ d)) := g3_; have SP3 : Hid (∀ w, Calls Try.prog 13 #[.agg #[.float .f64 r1, .float .f64 i1], .agg #[.float .f64 r3, .float .f64 i3]] w fun e w' => e = .returned (.bool true) ∧ Below w.heap.size w w') := fun w => (by have q := implSamePair_any r1 i1 r3 i3 f1.out.1 g1.out.1 f3.out.1 g3.out.1 w; rw [fl_same f1.out f3.out, fl_same g1.out g3.out] at q; exact q); have B7 : Below wv9.heap.size wv9 w7 := (show Below wv9.heap.size wv9 _ from (by repeat (first | with_reducible exact Below.refl _ _ | with_reducible refine Below.setCell ?_ (by first | omega | (simp; done) | (simp; omega)) _ | with_reducible refine bDrewN ?_ _ | with_reducible refine Below.drew ?_ | with_reducible refine Below.alloc ?_ (by first | omega | (simp; done) | (simp; omega)) _))).trans (h7.mono (by first | omega | (simp; done) | (simp; omega))); have s7 := B7.size; clear h7 f3_ g3_))
      refine hK.out _ _ (⟨(Hp.out.below B7).2.2 0 _ rfl, (Hp.out.below B7).2.2 1 _ rfl, (Hq.out.below B7).2.2 0 _ rfl, (Hq.out.below B7).2.2 1 _ rfl, (Ha.out.below B7).2.2 0 _ rfl, (Ha.out.below B7).2.2 1 _ rfl, (Hb.out.below B7).2.2 0 _ rfl, (Hb.out.below B7).2.2 1 _ rfl, (Hs.out.below B7).2.2 0 _ rfl, (Hs.out.below B7).2.2 1 _ rfl⟩) (fun hHeld => ?_)
      clear hK KK
      refine wpAnyH_ready (rs := [4]) (by kernel_rfl) (by simp) ?_
      refine AllReadyH.cons rfl (fun KK hK => ?_) AllReadyH.nil
      go_simp
      go_wp2_with (first | (go_at_call 13; refine (SP3.out _).mono ?_; rintro e w8 ⟨rfl, h7⟩; have B8 : Below wv9.heap.size wv9 w8 := B7.trans (h7.mono s7); have s8 := B8.size; clear h7))
      refine hK.out _ _ (⟨(Hp.out.below B8).2.2 0 _ rfl, (Hp.out.below B8).2.2 1 _ rfl, (Hq.out.below B8).2.2 0 _ rfl, (Hq.out.below B8).2.2 1 _ rfl, (Ha.out.below B8).2.2 0 _ rfl, (Ha.out.below B8).2.2 1 _ rfl, (Hb.out.below B8).2.2 0 _ rfl, (Hb.out.below B8).2.2 1 _ rfl, (Hs.out.below B8).2.2 0 _ rfl, (Hs.out.below B8).2.2 1 _ rfl⟩) (fun hHeld => ?_)
      clear hK KK
      refine wpAnyH_take (i := 5) (v := .bool false) rfl (by kernel_rfl) (by kernel_rfl) (by kernel_rfl) (fun _ _ _ h => h) (Or.inl ⟨by kernel_rfl, ?_⟩) hHeld ?_
      · intro w' hSw
        obtain ⟨sp0_, sp1_, sq0_, sq1_, sa0_, sa1_, sb0_, sb1_, ss0_, ss1_⟩ := hSw
        first | (go_simp; done) | (go_simp; with_reducible rfl) | (go_simp; rw [IntKind.wrap_i64]; omega) | (go_simp; omega)
      simp only [Act.put, List.setIfInBounds_toArray, List.set_cons_zero, List.set_cons_succ]
      refine wpAnyH_take (i := 6) (v := .bool false) rfl (by kernel_rfl) (by kernel_rfl) (by kernel_rfl) (fun _ _ _ h => h) (Or.inl ⟨by kernel_rfl, ?_⟩) hHeld ?_
      · intro w' hSw
        obtain ⟨sp0_, sp1_, sq0_, sq1_, sa0_, sa1_, sb0_, sb1_, ss0_, ss1_⟩ := hSw
        first | (go_simp; done) | (go_simp; with_reducible rfl) | (go_simp; rw [IntKind.wrap_i64]; omega) | (go_simp; omega)
      simp only [Act.put, List.setIfInBounds_toArray, List.set_cons_zero, List.set_cons_succ]
      refine wpAnyH_take (i := 7) (v := .pointer (some ⟨gp, 0, none⟩)) rfl (by kernel_rfl) (by kernel_rfl) (by kernel_rfl) (fun _ _ _ h => h) (Or.inl ⟨by kernel_rfl, ?_⟩) hHeld ?_
      · intro w' hSw
        obtain ⟨sp0_, sp1_, sq0_, sq1_, sa0_, sa1_, sb0_, sb1_, ss0_, ss1_⟩ := hSw
        first | (go_simp; done) | (go_simp; with_reducible rfl) | (go_simp; rw [IntKind.wrap_i64]; omega) | (go_simp; omega)
      simp only [Act.put, List.setIfInBounds_toArray, List.set_cons_zero, List.set_cons_succ]
      refine wpAnyH_take (i := 8) (v := .float .f64 r1) rfl (by kernel_rfl) (by kernel_rfl) (by kernel_rfl) (fun _ _ _ h => h) (Or.inl ⟨by kernel_rfl, ?_⟩) hHeld ?_
      · intro w' hSw
        obtain ⟨sp0_, sp1_, sq0_, sq1_, sa0_, sa1_, sb0_, sb1_, ss0_, ss1_⟩ := hSw
        first | (go_simp; done) | (go_simp; with_reducible rfl) | (go_simp; rw [IntKind.wrap_i64]; omega) | (go_simp; omega)
      simp only [Act.put, List.setIfInBounds_toArray, List.set_cons_zero, List.set_cons_succ]
      refine wpAnyH_take (i := 9) (v := .pointer (some ⟨gq, 0, none⟩)) rfl (by kernel_rfl) (by kernel_rfl) (by kernel_rfl) (fun _ _ _ h => h) (Or.inl ⟨by kernel_rfl, ?_⟩) hHeld ?_
      · intro w' hSw
        obtain ⟨sp0_, sp1_, sq0_, sq1_, sa0_, sa1_, sb0_, sb1_, ss0_, ss1_⟩ := hSw
        first | (go_simp; done) | (go_simp; with_reducible rfl) | (go_simp; rw [IntKind.wrap_i64]; omega) | (go_simp; omega)
      simp only [Act.put, List.setIfInBounds_toArray, List.set_cons_zero, List.set_cons_succ]
      refine wpAnyH_take (i := 10) (v := .float .f64 r2) rfl (by kernel_rfl) (by kernel_rfl) (by kernel_rfl) (fun _ _ _ h => h) (Or.inl ⟨by kernel_rfl, ?_⟩) hHeld ?_
      · intro w' hSw
        obtain ⟨sp0_, sp1_, sq0_, sq1_, sa0_, sa1_, sb0_, sb1_, ss0_, ss1_⟩ := hSw
        first | (go_simp; done) | (go_simp; with_reducible rfl) | (go_simp; rw [IntKind.wrap_i64]; omega) | (go_simp; omega)
      simp only [Act.put, List.setIfInBounds_toArray, List.set_cons_zero, List.set_cons_succ]
      refine wpAnyH_take (i := 11) (v := .bool true) rfl (by kernel_rfl) (by kernel_rfl) (by kernel_rfl) (fun _ _ _ h => h) (Or.inl ⟨by kernel_rfl, ?_⟩) hHeld ?_
      · intro w' hSw
        obtain ⟨sp0_, sp1_, sq0_, sq1_, sa0_, sa1_, sb0_, sb1_, ss0_, ss1_⟩ := hSw
        first | (go_simp; done) | (go_simp; with_reducible rfl) | (go_simp; rw [IntKind.wrap_i64]; omega) | (go_simp; omega)
      simp only [Act.put, List.setIfInBounds_toArray, List.set_cons_zero, List.set_cons_succ]
      refine wpAnyH_take (i := 12) (v := .bool true) rfl (by kernel_rfl) (by kernel_rfl) (by kernel_rfl) (fun _ _ _ h => h) (Or.inl ⟨by kernel_rfl, ?_⟩) hHeld ?_
      · intro w' hSw
        obtain ⟨sp0_, sp1_, sq0_, sq1_, sa0_, sa1_, sb0_, sb1_, ss0_, ss1_⟩ := hSw
        first | (go_simp; done) | (go_simp; with_reducible rfl) | (go_simp; rw [IntKind.wrap_i64]; omega) | (go_simp; omega)
      simp only [Act.put, List.setIfInBounds_toArray, List.set_cons_zero, List.set_cons_succ]
      refine wpAnyH_take (i := 13) (v := undef) rfl (by kernel_rfl) (by kernel_rfl) (by kernel_rfl) (fun _ _ _ h => h) (Or.inr ⟨by kernel_rfl, rfl⟩) hHeld ?_
      simp only [Act.put, List.setIfInBounds_toArray, List.set_cons_zero, List.set_cons_succ]
      refine wpAnyH_take (i := 14) (v := undef) rfl (by kernel_rfl) (by kernel_rfl) (by kernel_rfl) (fun _ _ _ h => h) (Or.inr ⟨by kernel_rfl, rfl⟩) hHeld ?_
      simp only [Act.put, List.setIfInBounds_toArray, List.set_cons_zero, List.set_cons_succ]
      refine wpAnyH_take (i := 15) (v := undef) rfl (by kernel_rfl) (by kernel_rfl) (by kernel_rfl) (fun _ _ _ h => h) (Or.inr ⟨by kernel_rfl, rfl⟩) hHeld ?_
      simp only [Act.put, List.setIfInBounds_toArray, List.set_cons_zero, List.set_cons_succ]
      refine wpAnyH_take (i := 16) (v := undef) rfl (by kernel_rfl) (by kernel_rfl) (by kernel_rfl) (fun _ _ _ h => h) (Or.inr ⟨by kernel_rfl, rfl⟩) hHeld ?_
      simp only [Act.put, List.setIfInBounds_toArray, List.set_cons_zero, List.set_cons_succ]
      refine wpAnyH_take (i := 17) (v := undef) rfl (by kernel_rfl) (by kernel_rfl) (by kernel_rfl) (fun _ _ _ h => h) (Or.inr ⟨by kernel_rfl, rfl⟩) hHeld ?_
      simp only [Act.put, List.setIfInBounds_toArray, List.set_cons_zero, List.set_cons_succ]
      refine wpAnyH_take (i := 18) (v := .bool true) rfl (by kernel_rfl) (by kernel_rfl) (by kernel_rfl) (fun _ _ _ h => h) (Or.inl ⟨by kernel_rfl, ?_⟩) hHeld ?_
      · intro w' hSw
        obtain ⟨sp0_, sp1_, sq0_, sq1_, sa0_, sa1_, sb0_, sb1_, ss0_, ss1_⟩ := hSw
        first | (go_simp; done) | (go_simp; with_reducible rfl) | (go_simp; rw [IntKind.wrap_i64]; omega) | (go_simp; omega)
      simp only [Act.put, List.setIfInBounds_toArray, List.set_cons_zero, List.set_cons_succ]
      refine wpAnyH_take (i := 19) (v := .bool false) rfl (by kernel_rfl) (by kernel_rfl) (by kernel_rfl) (fun _ _ _ h => h) (Or.inl ⟨by kernel_rfl, ?_⟩) hHeld ?_
      · intro w' hSw
        obtain ⟨sp0_, sp1_, sq0_, sq1_, sa0_, sa1_, sb0_, sb1_, ss0_, ss1_⟩ := hSw
        first | (go_simp; done) | (go_simp; with_reducible rfl) | (go_simp; rw [IntKind.wrap_i64]; omega) | (go_simp; omega)
      simp only [Act.put, List.setIfInBounds_toArray, List.set_cons_zero, List.set_cons_succ]
      refine wpAnyH_take (i := 20) (v := .bool false) rfl (by kernel_rfl) (by kernel_rfl) (by kernel_rfl) (fun _ _ _ h => h) (Or.inl ⟨by kernel_rfl, ?_⟩) hHeld ?_
      · intro w' hSw
        obtain ⟨sp0_, sp1_, sq0_, sq1_, sa0_, sa1_, sb0_, sb1_, ss0_, ss1_⟩ := hSw
        first | (go_simp; done) | (go_simp; with_reducible rfl) | (go_simp; rw [IntKind.wrap_i64]; omega) | (go_simp; omega)
      simp only [Act.put, List.setIfInBounds_toArray, List.set_cons_zero, List.set_cons_succ]
      refine wpAnyH_take (i := 21) (v := .bool false) rfl (by kernel_rfl) (by kernel_rfl) (by kernel_rfl) (fun _ _ _ h => h) (Or.inl ⟨by kernel_rfl, ?_⟩) hHeld ?_
      · intro w' hSw
        obtain ⟨sp0_, sp1_, sq0_, sq1_, sa0_, sa1_, sb0_, sb1_, ss0_, ss1_⟩ := hSw
        first | (go_simp; done) | (go_simp; with_reducible rfl) | (go_simp; rw [IntKind.wrap_i64]; omega) | (go_simp; omega)
      simp only [Act.put, List.setIfInBounds_toArray, List.set_cons_zero, List.set_cons_succ]
      refine wpAnyH_take (i := 22) (v := .pointer (some ⟨gp, 1, none⟩)) rfl (by kernel_rfl) (by kernel_rfl) (by kernel_rfl) (fun _ _ _ h => h) (Or.inl ⟨by kernel_rfl, ?_⟩) hHeld ?_
      · intro w' hSw
        obtain ⟨sp0_, sp1_, sq0_, sq1_, sa0_, sa1_, sb0_, sb1_, ss0_, ss1_⟩ := hSw
        first | (go_simp; done) | (go_simp; with_reducible rfl) | (go_simp; rw [IntKind.wrap_i64]; omega) | (go_simp; omega)
      simp only [Act.put, List.setIfInBounds_toArray, List.set_cons_zero, List.set_cons_succ]
      refine wpAnyH_take (i := 23) (v := .float .f64 i1) rfl (by kernel_rfl) (by kernel_rfl) (by kernel_rfl) (fun _ _ _ h => h) (Or.inl ⟨by kernel_rfl, ?_⟩) hHeld ?_
      · intro w' hSw
        obtain ⟨sp0_, sp1_, sq0_, sq1_, sa0_, sa1_, sb0_, sb1_, ss0_, ss1_⟩ := hSw
        first | (go_simp; done) | (go_simp; with_reducible rfl) | (go_simp; rw [IntKind.wrap_i64]; omega) | (go_simp; omega)
      simp only [Act.put, List.setIfInBounds_toArray, List.set_cons_zero, List.set_cons_succ]
      refine wpAnyH_take (i := 24) (v := .pointer (some ⟨gq, 1, none⟩)) rfl (by kernel_rfl) (by kernel_rfl) (by kernel_rfl) (fun _ _ _ h => h) (Or.inl ⟨by kernel_rfl, ?_⟩) hHeld ?_
      · intro w' hSw
        obtain ⟨sp0_, sp1_, sq0_, sq1_, sa0_, sa1_, sb0_, sb1_, ss0_, ss1_⟩ := hSw
        first | (go_simp; done) | (go_simp; with_reducible rfl) | (go_simp; rw [IntKind.wrap_i64]; omega) | (go_simp; omega)
      simp only [Act.put, List.setIfInBounds_toArray, List.set_cons_zero, List.set_cons_succ]
      refine wpAnyH_take (i := 25) (v := .float .f64 i2) rfl (by kernel_rfl) (by kernel_rfl) (by kernel_rfl) (fun _ _ _ h => h) (Or.inl ⟨by kernel_rfl, ?_⟩) hHeld ?_
      · intro w' hSw
        obtain ⟨sp0_, sp1_, sq0_, sq1_, sa0_, sa1_, sb0_, sb1_, ss0_, ss1_⟩ := hSw
        first | (go_simp; done) | (go_simp; with_reducible rfl) | (go_simp; rw [IntKind.wrap_i64]; omega) | (go_simp; omega)
      simp only [Act.put, List.setIfInBounds_toArray, List.set_cons_zero, List.set_cons_succ]
      refine wpAnyH_take (i := 26) (v := .bool true) rfl (by kernel_rfl) (by kernel_rfl) (by kernel_rfl) (fun _ _ _ h => h) (Or.inl ⟨by kernel_rfl, ?_⟩) hHeld ?_
      · intro w' hSw
        obtain ⟨sp0_, sp1_, sq0_, sq1_, sa0_, sa1_, sb0_, sb1_, ss0_, ss1_⟩ := hSw
        first | (go_simp; done) | (go_simp; with_reducible rfl) | (go_simp; rw [IntKind.wrap_i64]; omega) | (go_simp; omega)
      simp only [Act.put, List.setIfInBounds_toArray, List.set_cons_zero, List.set_cons_succ]
      refine wpAnyH_take (i := 27) (v := .bool true) rfl (by kernel_rfl) (by kernel_rfl) (by kernel_rfl) (fun _ _ _ h => h) (Or.inl ⟨by kernel_rfl, ?_⟩) hHeld ?_
      · intro w' hSw
        obtain ⟨sp0_, sp1_, sq0_, sq1_, sa0_, sa1_, sb0_, sb1_, ss0_, ss1_⟩ := hSw
        first | (go_simp; done) | (go_simp; with_reducible rfl) | (go_simp; rw [IntKind.wrap_i64]; omega) | (go_simp; omega)
      simp only [Act.put, List.setIfInBounds_toArray, List.set_cons_zero, List.set_cons_succ]
      refine wpAnyH_take (i := 28) (v := undef) rfl (by kernel_rfl) (by kernel_rfl) (by kernel_rfl) (fun _ _ _ h => h) (Or.inr ⟨by kernel_rfl, rfl⟩) hHeld ?_
      simp only [Act.put, List.setIfInBounds_toArray, List.set_cons_zero, List.set_cons_succ]
      refine wpAnyH_take (i := 29) (v := undef) rfl (by kernel_rfl) (by kernel_rfl) (by kernel_rfl) (fun _ _ _ h => h) (Or.inr ⟨by kernel_rfl, rfl⟩) hHeld ?_
      simp only [Act.put, List.setIfInBounds_toArray, List.set_cons_zero, List.set_cons_succ]
      refine wpAnyH_take (i := 30) (v := undef) rfl (by kernel_rfl) (by kernel_rfl) (by kernel_rfl) (fun _ _ _ h => h) (Or.inr ⟨by kernel_rfl, rfl⟩) hHeld ?_
      simp only [Act.put, List.setIfInBounds_toArray, List.set_cons_zero, List.set_cons_succ]
      refine wpAnyH_take (i := 31) (v := undef) rfl (by kernel_rfl) (by kernel_rfl) (by kernel_rfl) (fun _ _ _ h => h) (Or.inr ⟨by kernel_rfl, rfl⟩) hHeld ?_
      simp only [Act.put, List.setIfInBounds_toArray, List.set_cons_zero, List.set_cons_succ]
      refine wpAnyH_take (i := 32) (v := undef) rfl (by kernel_rfl) (by kernel_rfl) (by kernel_rfl) (fun _ _ _ h => h) (Or.inr ⟨by kernel_rfl, rfl⟩) hHeld ?_
      simp only [Act.put, List.setIfInBounds_toArray, List.set_cons_zero, List.set_cons_succ]
      refine wpAnyH_take (i := 33) (v := .bool true) rfl (by kernel_rfl) (by kernel_rfl) (by kernel_rfl) (fun _ _ _ h => h) (Or.inl ⟨by kernel_rfl, ?_⟩) hHeld ?_
      · intro w' hSw
        obtain ⟨sp0_, sp1_, sq0_, sq1_, sa0_, sa1_, sb0_, sb1_, ss0_, ss1_⟩ := hSw
        first | (go_simp; done) | (go_simp; with_reducible rfl) | (go_simp; rw [IntKind.wrap_i64]; omega) | (go_simp; omega)
      simp only [Act.put, List.setIfInBounds_toArray, List.set_cons_zero, List.set_cons_succ]
      refine wpAnyH_take (i := 34) (v := .bool false) rfl (by kernel_rfl) (by kernel_rfl) (by kernel_rfl) (fun _ _ _ h => h) (Or.inl ⟨by kernel_rfl, ?_⟩) hHeld ?_
      · intro w' hSw
        obtain ⟨sp0_, sp1_, sq0_, sq1_, sa0_, sa1_, sb0_, sb1_, ss0_, ss1_⟩ := hSw
        first | (go_simp; done) | (go_simp; with_reducible rfl) | (go_simp; rw [IntKind.wrap_i64]; omega) | (go_simp; omega)
      simp only [Act.put, List.setIfInBounds_toArray, List.set_cons_zero, List.set_cons_succ]
      refine wpAnyH_take (i := 35) (v := .bool false) rfl (by kernel_rfl) (by kernel_rfl) (by kernel_rfl) (fun _ _ _ h => h) (Or.inl ⟨by kernel_rfl, ?_⟩) hHeld ?_
      · intro w' hSw
        obtain ⟨sp0_, sp1_, sq0_, sq1_, sa0_, sa1_, sb0_, sb1_, ss0_, ss1_⟩ := hSw
        first | (go_simp; done) | (go_simp; with_reducible rfl) | (go_simp; rw [IntKind.wrap_i64]; omega) | (go_simp; omega)
      simp only [Act.put, List.setIfInBounds_toArray, List.set_cons_zero, List.set_cons_succ]
      refine wpAnyH_take (i := 36) (v := .bool false) rfl (by kernel_rfl) (by kernel_rfl) (by kernel_rfl) (fun _ _ _ h => h) (Or.inl ⟨by kernel_rfl, ?_⟩) hHeld ?_
      · intro w' hSw
        obtain ⟨sp0_, sp1_, sq0_, sq1_, sa0_, sa1_, sb0_, sb1_, ss0_, ss1_⟩ := hSw
        first | (go_simp; done) | (go_simp; with_reducible rfl) | (go_simp; rw [IntKind.wrap_i64]; omega) | (go_simp; omega)
      simp only [Act.put, List.setIfInBounds_toArray, List.set_cons_zero, List.set_cons_succ]
      refine wpAnyH_take (i := 37) (v := .agg #[.float .f64 r5, .float .f64 i5]) rfl (by kernel_rfl) (by kernel_rfl) (by kernel_rfl) (fun _ _ _ h => h) (Or.inl ⟨by kernel_rfl, ?_⟩) hHeld ?_
      · intro w' hSw
        obtain ⟨sp0_, sp1_, sq0_, sq1_, sa0_, sa1_, sb0_, sb1_, ss0_, ss1_⟩ := hSw
        first | (go_simp; done) | (go_simp; with_reducible rfl) | (go_simp; rw [IntKind.wrap_i64]; omega) | (go_simp; omega)
      simp only [Act.put, List.setIfInBounds_toArray, List.set_cons_zero, List.set_cons_succ]
      refine wpAnyH_take (i := 38) (v := .agg #[.float .f64 z, .float .f64 u]) rfl (by kernel_rfl) (by kernel_rfl) (by kernel_rfl) (fun _ _ _ h => h) (Or.inl ⟨by kernel_rfl, ?_⟩) hHeld ?_
      · intro w' hSw
        obtain ⟨sp0_, sp1_, sq0_, sq1_, sa0_, sa1_, sb0_, sb1_, ss0_, ss1_⟩ := hSw
        first | (go_simp; done) | (go_simp; with_reducible rfl) | (go_simp; rw [IntKind.wrap_i64]; omega) | (go_simp; omega)
      simp only [Act.put, List.setIfInBounds_toArray, List.set_cons_zero, List.set_cons_succ]
      refine wpAnyH_take (i := 39) (v := .agg #[.float .f64 x, .float .f64 y]) rfl (by kernel_rfl) (by kernel_rfl) (by kernel_rfl) (fun _ _ _ h => h) (Or.inl ⟨by kernel_rfl, ?_⟩) hHeld ?_
      · intro w' hSw
        obtain ⟨sp0_, sp1_, sq0_, sq1_, sa0_, sa1_, sb0_, sb1_, ss0_, ss1_⟩ := hSw
        first | (go_simp; done) | (go_simp; with_reducible rfl) | (go_simp; rw [IntKind.wrap_i64]; omega) | (go_simp; omega)
      simp only [Act.put, List.setIfInBounds_toArray, List.set_cons_zero, List.set_cons_succ]
      refine wpAnyH_ready (rs := [40]) (by kernel_rfl) (by simp) ?_
      refine AllReadyH.cons rfl (fun KK hK => ?_) AllReadyH.nil
      go_simp
      go_wp2_with (first | (go_at_call 12; refine (implAddPair_any fc.out fd.out fa.out fb.out _).mono ?_; rintro e w9 ⟨r6, i6, rfl, f6_, g6_, h7⟩; have f6 : Hid (Fl r6 (opO .add a c_)) := (by show Fl _ _; rw [oadd_comm]; exact f6_); have g6 : Hid (Fl i6 (opO .add b d)) := (by show Fl _ _; rw [oadd_comm]; exact g6_); have SP6 : Hid (∀ w, Calls Try.prog 13 #[.agg #[.float .f64 r5, .float .f64 i5], .agg #[.float .f64 r6, .float .f64 i6]] w fun e w' => e = .returned (.bool true) ∧ Below w.heap.size w w') := fun w => (by have q := implSamePair_any r5 i5 r6 i6 f5.out.1 g5.out.1 f6.out.1 g6.out.1 w; rw [fl_same f5.out f6.out, fl_same g5.out g6.out] at q; exact q); have B9 : Below wv9.heap.size wv9 w9 := B8.trans (h7.mono s8); have s9 := B9.size; clear h7 f6_ g6_))
      refine hK.out _ _ (⟨(Hp.out.below B9).2.2 0 _ rfl, (Hp.out.below B9).2.2 1 _ rfl, (Hq.out.below B9).2.2 0 _ rfl, (Hq.out.below B9).2.2 1 _ rfl, (Ha.out.below B9).2.2 0 _ rfl, (Ha.out.below B9).2.2 1 _ rfl, (Hb.out.below B9).2.2 0 _ rfl, (Hb.out.below B9).2.2 1 _ rfl, (Hs.out.below B9).2.2 0 _ rfl, (Hs.out.below B9).2.2 1 _ rfl⟩) (fun hHeld => ?_)
      clear hK KK
      refine wpAnyH_ready (rs := [41]) (by kernel_rfl) (by simp) ?_
      refine AllReadyH.cons rfl (fun KK hK => ?_) AllReadyH.nil
      go_simp
      go_wp2_with (first | (go_at_call 13; refine (SP6.out _).mono ?_; rintro e w10 ⟨rfl, h7⟩; have B10 : Below wv9.heap.size wv9 w10 := B9.trans (h7.mono s9); have s10 := B10.size; clear h7))
      refine hK.out _ _ (⟨(Hp.out.below B10).2.2 0 _ rfl, (Hp.out.below B10).2.2 1 _ rfl, (Hq.out.below B10).2.2 0 _ rfl, (Hq.out.below B10).2.2 1 _ rfl, (Ha.out.below B10).2.2 0 _ rfl, (Ha.out.below B10).2.2 1 _ rfl, (Hb.out.below B10).2.2 0 _ rfl, (Hb.out.below B10).2.2 1 _ rfl, (Hs.out.below B10).2.2 0 _ rfl, (Hs.out.below B10).2.2 1 _ rfl⟩) (fun hHeld => ?_)
      clear hK KK
      refine wpAnyH_take (i := 42) (v := .bool false) rfl (by kernel_rfl) (by kernel_rfl) (by kernel_rfl) (fun _ _ _ h => h) (Or.inl ⟨by kernel_rfl, ?_⟩) hHeld ?_
      · intro w' hSw
        obtain ⟨sp0_, sp1_, sq0_, sq1_, sa0_, sa1_, sb0_, sb1_, ss0_, ss1_⟩ := hSw
        first | (go_simp; done) | (go_simp; with_reducible rfl) | (go_simp; rw [IntKind.wrap_i64]; omega) | (go_simp; omega)
      simp only [Act.put, List.setIfInBounds_toArray, List.set_cons_zero, List.set_cons_succ]
      refine wpAnyH_ready (rs := [43]) (by kernel_rfl) (by simp) ?_
      refine AllReadyH.cons rfl (fun KK hK => ?_) AllReadyH.nil
      go_simp
      refine hK.out _ _ hHeld (fun hHeld => ?_)
      clear hK KK
      refine wpAnyH_done (by kernel_rfl) ?_ _
      have bl_ := B10
      clear hHeld B7 B8 B9 s7 s8 s9 s10 f3 g3 f6 g6 SP3 SP6
      replace Ha : Hid (Blk w10 ga [.float .f64 x, .float .f64 y]) := Ha.out.below bl_
      replace Hb : Hid (Blk w10 gb [.float .f64 z, .float .f64 u]) := Hb.out.below bl_
      replace Hp : Hid (Blk w10 gp [.float .f64 r1, .float .f64 i1]) := Hp.out.below bl_
      replace Hq : Hid (Blk w10 gq [.float .f64 r2, .float .f64 i2]) := Hq.out.below bl_
      replace Hs : Hid (Blk w10 gs [.float .f64 r5, .float .f64 i5]) := Hs.out.below bl_
      replace HB : Hid (Below w1.heap.size w1 w10) := HB.out.trans (bl_.mono HB.out.size)
      clear bl_ B10
      clear Hp
      clear Hq
      clear Hs
      have KX : Hid (∀ w : World, Calls Try.prog 15 #[.float .f64 x] w fun e w' => e = .returned (.bool (knownB x)) ∧ ∃ n, w' = w.drewN n) := fun w => specKnown_any x w
      have KY : Hid (∀ w : World, Calls Try.prog 15 #[.float .f64 y] w fun e w' => e = .returned (.bool (knownB y)) ∧ ∃ n, w' = w.drewN n) := fun w => specKnown_any y w
      obtain ⟨z_a, f_a, c_a⟩ := Ha.out
      have ac0 : w10.cell? ⟨ga, 0, none⟩ = some (.float .f64 x) := c_a 0 _ rfl
      have ac1 : w10.cell? ⟨ga, 1, none⟩ = some (.float .f64 y) := c_a 1 _ rfl
      clear f_a c_a
      go_wp2_with fail
      refine (KX.out _).mono ?_
      rintro e wv10 ⟨rfl, q_, hw⟩
      have h_ : Below w10.heap.size w10 wv10 := by rw [hw]; exact (by repeat (first | with_reducible exact Below.refl _ _ | with_reducible refine Below.setCell ?_ (by first | omega | (simp; done) | (simp; omega)) _ | with_reducible refine bDrewN ?_ _ | with_reducible refine Below.drew ?_ | with_reducible refine Below.alloc ?_ (by first | omega | (simp; done) | (simp; omega)) _))
      clear hw
      replace Ha : Hid (Blk wv10 ga [.float .f64 x, .float .f64 y]) := Ha.out.below h_
      replace Hb : Hid (Blk wv10 gb [.float .f64 z, .float .f64 u]) := Hb.out.below h_
      replace HB : Hid (Below w1.heap.size w1 wv10) := HB.out.trans (h_.mono HB.out.size)
      clear h_
      clear ac0 ac1 z_a
      cases kx : knownB x
      case false =>
        have BF := HB.out
        have sBF := BF.size
        go_wp2
        go_ret
        exact ⟨rfl, (by repeat (first | with_reducible exact Below.refl _ _ | with_reducible exact BF | with_reducible refine Below.setCell ?_ (by first | omega | (simp; done) | (simp; omega)) _ | with_reducible refine bDrewN ?_ _ | with_reducible refine Below.drew ?_ | with_reducible refine Below.alloc ?_ (by first | omega | (simp; done) | (simp; omega)) _))⟩
      case true =>
        obtain ⟨z_a, f_a, c_a⟩ := Ha.out
        have ac0 : wv10.cell? ⟨ga, 0, none⟩ = some (.float .f64 x) := c_a 0 _ rfl
        have ac1 : wv10.cell? ⟨ga, 1, none⟩ = some (.float .f64 y) := c_a 1 _ rfl
        clear f_a c_a
        go_wp2_with fail
        refine (KY.out _).mono ?_
        rintro e wv11 ⟨rfl, q_, hw⟩
        have h_ : Below wv10.heap.size wv10 wv11 := by rw [hw]; exact (by repeat (first | with_reducible exact Below.refl _ _ | with_reducible refine Below.setCell ?_ (by first | omega | (simp; done) | (simp; omega)) _ | with_reducible refine bDrewN ?_ _ | with_reducible refine Below.drew ?_ | with_reducible refine Below.alloc ?_ (by first | omega | (simp; done) | (simp; omega)) _))
        clear hw
        replace Ha : Hid (Blk wv11 ga [.float .f64 x, .float .f64 y]) := Ha.out.below h_
        replace Hb : Hid (Blk wv11 gb [.float .f64 z, .float .f64 u]) := Hb.out.below h_
        replace HB : Hid (Below w1.heap.size w1 wv11) := HB.out.trans (h_.mono HB.out.size)
        clear h_
        clear ac0 ac1 z_a
        cases ky : knownB y
        case false =>
          have BF := HB.out
          have sBF := BF.size
          go_wp2
          go_ret
          exact ⟨rfl, (by repeat (first | with_reducible exact Below.refl _ _ | with_reducible exact BF | with_reducible refine Below.setCell ?_ (by first | omega | (simp; done) | (simp; omega)) _ | with_reducible refine bDrewN ?_ _ | with_reducible refine Below.drew ?_ | with_reducible refine Below.alloc ?_ (by first | omega | (simp; done) | (simp; omega)) _))⟩
        case true =>
          have hx0 : rg x < INF := of_decide_eq_true kx
          have hy0 : rg y < INF := of_decide_eq_true ky
          clear kx ky
          have FX : Hid (Fl x (some x)) := ⟨lx, .inl ⟨Nat.le_of_lt hx0, rfl⟩⟩
          have FY : Hid (Fl y (some y)) := ⟨ly, .inl ⟨Nat.le_of_lt hy0, rfl⟩⟩
          obtain ⟨z_a, f_a, c_a⟩ := Ha.out
          have ac0 : wv11.cell? ⟨ga, 0, none⟩ = some (.float .f64 x) := c_a 0 _ rfl
          have ac1 : wv11.cell? ⟨ga, 1, none⟩ = some (.float .f64 y) := c_a 1 _ rfl
          clear f_a c_a
          go_wp2_with fail
          refine (implSubPair_any FX.out FY.out FX.out FY.out _).mono ?_
          rintro e wv12 ⟨r7, i7, rfl, f7, g7, h_⟩
          replace Ha : Hid (Blk wv12 ga [.float .f64 x, .float .f64 y]) := Ha.out.below h_
          replace Hb : Hid (Blk wv12 gb [.float .f64 z, .float .f64 u]) := Hb.out.below h_
          replace HB : Hid (Below w1.heap.size w1 wv12) := HB.out.trans (h_.mono HB.out.size)
          clear h_
          clear ac0 ac1 z_a
          rw [sub_self_o hx0] at f7
          rw [sub_self_o hy0] at g7
          obtain rfl : r7 = 0 := fl_val f7
          obtain rfl : i7 = 0 := fl_val g7
          clear f7 g7
          go_upto_region 12 with fail
          obtain ⟨wv13, hw_⟩ : ∃ x_, x_ = wv12.alloc (.cells #[.float .f64 0, .float .f64 0] 26) := ⟨_, rfl⟩
          rw [← hw_]
          have Hd : Hid (Blk wv13 wv12.heap.size [.float .f64 0, .float .f64 0]) := by show Blk _ _ _; rw [hw_]; exact Blk.new wv12 #[.float .f64 0, .float .f64 0] _
          have bl_ : Below wv12.heap.size wv12 wv13 := by rw [hw_]; exact below0 _ _
          clear hw_
          replace Ha : Hid (Blk wv13 ga [.float .f64 x, .float .f64 y]) := Ha.out.below bl_
          replace Hb : Hid (Blk wv13 gb [.float .f64 z, .float .f64 u]) := Hb.out.below bl_
          replace HB : Hid (Below w1.heap.size w1 wv13) := HB.out.trans (bl_.mono HB.out.size)
          obtain ⟨gd, hg_⟩ : ∃ g, g = wv12.heap.size := ⟨_, rfl⟩
          rw [← hg_] at Hd ⊢
          clear hg_ bl_
          obtain ⟨z_a, f_a, c_a⟩ := Ha.out
          have ac0 : wv13.cell? ⟨ga, 0, none⟩ = some (.float .f64 x) := c_a 0 _ rfl
          have ac1 : wv13.cell? ⟨ga, 1, none⟩ = some (.float .f64 y) := c_a 1 _ rfl
          clear f_a c_a
          go_wp2_with fail
          refine (implPower_any FX.out FY.out FX.out FY.out _).mono ?_
          rintro e wv14 ⟨r8, i8, rfl, f8, g8, h_⟩
          replace Ha : Hid (Blk wv14 ga [.float .f64 x, .float .f64 y]) := Ha.out.below h_
          replace Hb : Hid (Blk wv14 gb [.float .f64 z, .float .f64 u]) := Hb.out.below h_
          replace Hd : Hid (Blk wv14 gd [.float .f64 0, .float .f64 0]) := Hd.out.below h_
          replace HB : Hid (Below w1.heap.size w1 wv14) := HB.out.trans (h_.mono HB.out.size)
          clear h_
          clear ac0 ac1 z_a
          go_upto_region 13 with fail
          obtain ⟨wv15, hw_⟩ : ∃ x_, x_ = wv14.alloc (.cells #[.float .f64 r8, .float .f64 i8] 26) := ⟨_, rfl⟩
          rw [← hw_]
          have Hw : Hid (Blk wv15 wv14.heap.size [.float .f64 r8, .float .f64 i8]) := by show Blk _ _ _; rw [hw_]; exact Blk.new wv14 #[.float .f64 r8, .float .f64 i8] _
          have bl_ : Below wv14.heap.size wv14 wv15 := by rw [hw_]; exact below0 _ _
          clear hw_
          replace Ha : Hid (Blk wv15 ga [.float .f64 x, .float .f64 y]) := Ha.out.below bl_
          replace Hb : Hid (Blk wv15 gb [.float .f64 z, .float .f64 u]) := Hb.out.below bl_
          replace Hd : Hid (Blk wv15 gd [.float .f64 0, .float .f64 0]) := Hd.out.below bl_
          replace HB : Hid (Below w1.heap.size w1 wv15) := HB.out.trans (bl_.mono HB.out.size)
          obtain ⟨gw, hg_⟩ : ∃ g, g = wv14.heap.size := ⟨_, rfl⟩
          rw [← hg_] at Hw ⊢
          clear hg_ bl_
          have z0 : (FloatKind.f64.format.order 0 0 != some .eq) = false := by decide
          have HK : Hid (knownB r8 = true → (FloatKind.f64.format.order i8 0 == some .eq) = true) := power_known (power_self lx ly hx0 hy0) f8 g8
          clear f8 g8
          have KR : Hid (∀ w : World, Calls Try.prog 15 #[.float .f64 r8] w fun e w' => e = .returned (.bool (knownB r8)) ∧ ∃ n, w' = w.drewN n) := fun w => specKnown_any r8 w
          obtain ⟨z_d, f_d, c_d⟩ := Hd.out
          have dc0 : wv15.cell? ⟨gd, 0, none⟩ = some (.float .f64 0) := c_d 0 _ rfl
          have dc1 : wv15.cell? ⟨gd, 1, none⟩ = some (.float .f64 0) := c_d 1 _ rfl
          clear f_d c_d
          obtain ⟨z_w, f_w, c_w⟩ := Hw.out
          have wc0 : wv15.cell? ⟨gw, 0, none⟩ = some (.float .f64 r8) := c_w 0 _ rfl
          have wc1 : wv15.cell? ⟨gw, 1, none⟩ = some (.float .f64 i8) := c_w 1 _ rfl
          clear f_w c_w
          go_wp2_with fail
          refine (KR.out _).mono ?_
          rintro e wv16 ⟨rfl, q_, hw⟩
          have h_ : Below wv15.heap.size wv15 wv16 := by rw [hw]; exact (by repeat (first | with_reducible exact Below.refl _ _ | with_reducible refine Below.setCell ?_ (by first | omega | (simp; done) | (simp; omega)) _ | with_reducible refine bDrewN ?_ _ | with_reducible refine Below.drew ?_ | with_reducible refine Below.alloc ?_ (by first | omega | (simp; done) | (simp; omega)) _))
          clear hw
          replace Ha : Hid (Blk wv16 ga [.float .f64 x, .float .f64 y]) := Ha.out.below h_
          replace Hb : Hid (Blk wv16 gb [.float .f64 z, .float .f64 u]) := Hb.out.below h_
          replace Hd : Hid (Blk wv16 gd [.float .f64 0, .float .f64 0]) := Hd.out.below h_
          replace Hw : Hid (Blk wv16 gw [.float .f64 r8, .float .f64 i8]) := Hw.out.below h_
          replace HB : Hid (Below w1.heap.size w1 wv16) := HB.out.trans (h_.mono HB.out.size)
          clear h_
          clear dc0 dc1 z_d
          clear wc0 wc1 z_w
          cases kr : knownB r8
          case false =>
            obtain ⟨z_w, f_w, c_w⟩ := Hw.out
            have wc0 : wv16.cell? ⟨gw, 0, none⟩ = some (.float .f64 r8) := c_w 0 _ rfl
            have wc1 : wv16.cell? ⟨gw, 1, none⟩ = some (.float .f64 i8) := c_w 1 _ rfl
            clear f_w c_w
            have BF := HB.out
            have sBF := BF.size
            go_wp2
            go_ret
            exact ⟨rfl, (by repeat (first | with_reducible exact Below.refl _ _ | with_reducible exact BF | with_reducible refine Below.setCell ?_ (by first | omega | (simp; done) | (simp; omega)) _ | with_reducible refine bDrewN ?_ _ | with_reducible refine Below.drew ?_ | with_reducible refine Below.alloc ?_ (by first | omega | (simp; done) | (simp; omega)) _))⟩
          case true =>
            have hi := HK.out kr
            obtain ⟨z_w, f_w, c_w⟩ := Hw.out
            have wc0 : wv16.cell? ⟨gw, 0, none⟩ = some (.float .f64 r8) := c_w 0 _ rfl
            have wc1 : wv16.cell? ⟨gw, 1, none⟩ = some (.float .f64 i8) := c_w 1 _ rfl
            clear f_w c_w
            have BF := HB.out
            have sBF := BF.size
            go_wp2
            go_ret
            exact ⟨rfl, (by repeat (first | with_reducible exact Below.refl _ _ | with_reducible exact BF | with_reducible refine Below.setCell ?_ (by first | omega | (simp; done) | (simp; omega)) _ | with_reducible refine bDrewN ?_ _ | with_reducible refine Below.drew ?_ | with_reducible refine Below.alloc ?_ (by first | omega | (simp; done) | (simp; omega)) _))⟩
    · skip
      refine wp_region_held_drew (S := fun w' => w'.cell? ⟨gp, 0, none⟩ = some (.float .f64 r1) ∧ w'.cell? ⟨gp, 1, none⟩ = some (.float .f64 i1) ∧ w'.cell? ⟨gq, 0, none⟩ = some (.float .f64 r2) ∧ w'.cell? ⟨gq, 1, none⟩ = some (.float .f64 i2) ∧ w'.cell? ⟨ga, 0, none⟩ = some (.float .f64 x) ∧ w'.cell? ⟨ga, 1, none⟩ = some (.float .f64 y) ∧ w'.cell? ⟨gb, 0, none⟩ = some (.float .f64 z) ∧ w'.cell? ⟨gb, 1, none⟩ = some (.float .f64 u) ∧ w'.cell? ⟨gs, 0, none⟩ = some (.float .f64 r5) ∧ w'.cell? ⟨gs, 1, none⟩ = some (.float .f64 i5)) (by kernel_rfl) ?_ (fun hHeld => ?_)
      · exact ⟨(Hp.out.below (show Below wv9.heap.size wv9 _ from (by repeat (first | with_reducible exact Below.refl _ _ | with_reducible refine Below.setCell ?_ (by first | omega | (simp; done) | (simp; omega)) _ | with_reducible refine bDrewN ?_ _ | with_reducible refine Below.drew ?_ | with_reducible refine Below.alloc ?_ (by first | omega | (simp; done) | (simp; omega)) _)))).2.2 0 _ rfl, (Hp.out.below (show Below wv9.heap.size wv9 _ from (by repeat (first | with_reducible exact Below.refl _ _ | with_reducible refine Below.setCell ?_ (by first | omega | (simp; done) | (simp; omega)) _ | with_reducible refine bDrewN ?_ _ | with_reducible refine Below.drew ?_ | with_reducible refine Below.alloc ?_ (by first | omega | (simp; done) | (simp; omega)) _)))).2.2 1 _ rfl, (Hq.out.below (show Below wv9.heap.size wv9 _ from (by repeat (first | with_reducible exact Below.refl _ _ | with_reducible refine Below.setCell ?_ (by first | omega | (simp; done) | (simp; omega)) _ | with_reducible refine bDrewN ?_ _ | with_reducible refine Below.drew ?_ | with_reducible refine Below.alloc ?_ (by first | omega | (simp; done) | (simp; omega)) _)))).2.2 0 _ rfl, (Hq.out.below (show Below wv9.heap.size wv9 _ from (by repeat (first | with_reducible exact Below.refl _ _ | with_reducible refine Below.setCell ?_ (by first | omega | (simp; done) | (simp; omega)) _ | with_reducible refine bDrewN ?_ _ | with_reducible refine Below.drew ?_ | with_reducible refine Below.alloc ?_ (by first | omega | (simp; done) | (simp; omega)) _)))).2.2 1 _ rfl, (Ha.out.below (show Below wv9.heap.size wv9 _ from (by repeat (first | with_reducible exact Below.refl _ _ | with_reducible refine Below.setCell ?_ (by first | omega | (simp; done) | (simp; omega)) _ | with_reducible refine bDrewN ?_ _ | with_reducible refine Below.drew ?_ | with_reducible refine Below.alloc ?_ (by first | omega | (simp; done) | (simp; omega)) _)))).2.2 0 _ rfl, (Ha.out.below (show Below wv9.heap.size wv9 _ from (by repeat (first | with_reducible exact Below.refl _ _ | with_reducible refine Below.setCell ?_ (by first | omega | (simp; done) | (simp; omega)) _ | with_reducible refine bDrewN ?_ _ | with_reducible refine Below.drew ?_ | with_reducible refine Below.alloc ?_ (by first | omega | (simp; done) | (simp; omega)) _)))).2.2 1 _ rfl, (Hb.out.below (show Below wv9.heap.size wv9 _ from (by repeat (first | with_reducible exact Below.refl _ _ | with_reducible refine Below.setCell ?_ (by first | omega | (simp; done) | (simp; omega)) _ | with_reducible refine bDrewN ?_ _ | with_reducible refine Below.drew ?_ | with_reducible refine Below.alloc ?_ (by first | omega | (simp; done) | (simp; omega)) _)))).2.2 0 _ rfl, (Hb.out.below (show Below wv9.heap.size wv9 _ from (by repeat (first | with_reducible exact Below.refl _ _ | with_reducible refine Below.setCell ?_ (by first | omega | (simp; done) | (simp; omega)) _ | with_reducible refine bDrewN ?_ _ | with_reducible refine Below.drew ?_ | with_reducible refine Below.alloc ?_ (by first | omega | (simp; done) | (simp; omega)) _)))).2.2 1 _ rfl, (Hs.out.below (show Below wv9.heap.size wv9 _ from (by repeat (first | with_reducible exact Below.refl _ _ | with_reducible refine Below.setCell ?_ (by first | omega | (simp; done) | (simp; omega)) _ | with_reducible refine bDrewN ?_ _ | with_reducible refine Below.drew ?_ | with_reducible refine Below.alloc ?_ (by first | omega | (simp; done) | (simp; omega)) _)))).2.2 0 _ rfl, (Hs.out.below (show Below wv9.heap.size wv9 _ from (by repeat (first | with_reducible exact Below.refl _ _ | with_reducible refine Below.setCell ?_ (by first | omega | (simp; done) | (simp; omega)) _ | with_reducible refine bDrewN ?_ _ | with_reducible refine Below.drew ?_ | with_reducible refine Below.alloc ?_ (by first | omega | (simp; done) | (simp; omega)) _)))).2.2 1 _ rfl⟩
      refine wpAnyH_take (i := 0) (v := .agg #[.float .f64 r1, .float .f64 i1]) rfl (by kernel_rfl) (by kernel_rfl) (by kernel_rfl) (fun _ _ _ h => h) (Or.inl ⟨by kernel_rfl, ?_⟩) hHeld ?_
      · intro w' hSw
        obtain ⟨sp0_, sp1_, sq0_, sq1_, sa0_, sa1_, sb0_, sb1_, ss0_, ss1_⟩ := hSw
        first | (go_simp; done) | (go_simp; with_reducible rfl) | (go_simp; rw [IntKind.wrap_i64]; omega) | (go_simp; omega)
      simp only [Act.put, List.setIfInBounds_toArray, List.set_cons_zero, List.set_cons_succ]
      refine wpAnyH_take (i := 1) (v := .agg #[.float .f64 x, .float .f64 y]) rfl (by kernel_rfl) (by kernel_rfl) (by kernel_rfl) (fun _ _ _ h => h) (Or.inl ⟨by kernel_rfl, ?_⟩) hHeld ?_
      · intro w' hSw
        obtain ⟨sp0_, sp1_, sq0_, sq1_, sa0_, sa1_, sb0_, sb1_, ss0_, ss1_⟩ := hSw
        first | (go_simp; done) | (go_simp; with_reducible rfl) | (go_simp; rw [IntKind.wrap_i64]; omega) | (go_simp; omega)
      simp only [Act.put, List.setIfInBounds_toArray, List.set_cons_zero, List.set_cons_succ]
      refine wpAnyH_take (i := 2) (v := .agg #[.float .f64 z, .float .f64 u]) rfl (by kernel_rfl) (by kernel_rfl) (by kernel_rfl) (fun _ _ _ h => h) (Or.inl ⟨by kernel_rfl, ?_⟩) hHeld ?_
      · intro w' hSw
        obtain ⟨sp0_, sp1_, sq0_, sq1_, sa0_, sa1_, sb0_, sb1_, ss0_, ss1_⟩ := hSw
        first | (go_simp; done) | (go_simp; with_reducible rfl) | (go_simp; rw [IntKind.wrap_i64]; omega) | (go_simp; omega)
      simp only [Act.put, List.setIfInBounds_toArray, List.set_cons_zero, List.set_cons_succ]
      refine wpAnyH_ready (rs := [3]) (by kernel_rfl) (by simp) ?_
      refine AllReadyH.cons rfl (fun KK hK => ?_) AllReadyH.nil
      go_simp
      go_wp2_with (first | (go_at_call 14; refine (specMulPair_any fa.out fb.out fc.out fd.out _).mono ?_; rintro e w7 ⟨r3, i3, rfl, f3_, g3_, h7⟩; have f3 : Hid (Fl r3 (mulRe a b c_ d)) := f3_; have g3 : Hid (Fl i3 (mulIm a b c_ d)) := g3_; have SP3 : Hid (∀ w, Calls Try.prog 13 #[.agg #[.float .f64 r1, .float .f64 i1], .agg #[.float .f64 r3, .float .f64 i3]] w fun e w' => e = .returned (.bool true) ∧ Below w.heap.size w w') := fun w => (by have q := implSamePair_any r1 i1 r3 i3 f1.out.1 g1.out.1 f3.out.1 g3.out.1 w; rw [fl_same f1.out f3.out, fl_same g1.out g3.out] at q; exact q); have B7 : Below wv9.heap.size wv9 w7 := (show Below wv9.heap.size wv9 _ from (by repeat (first | with_reducible exact Below.refl _ _ | with_reducible refine Below.setCell ?_ (by first | omega | (simp; done) | (simp; omega)) _ | with_reducible refine bDrewN ?_ _ | with_reducible refine Below.drew ?_ | with_reducible refine Below.alloc ?_ (by first | omega | (simp; done) | (simp; omega)) _))).trans (h7.mono (by first | omega | (simp; done) | (simp; omega))); have s7 := B7.size; clear h7 f3_ g3_))
      refine hK.out _ _ (⟨(Hp.out.below B7).2.2 0 _ rfl, (Hp.out.below B7).2.2 1 _ rfl, (Hq.out.below B7).2.2 0 _ rfl, (Hq.out.below B7).2.2 1 _ rfl, (Ha.out.below B7).2.2 0 _ rfl, (Ha.out.below B7).2.2 1 _ rfl, (Hb.out.below B7).2.2 0 _ rfl, (Hb.out.below B7).2.2 1 _ rfl, (Hs.out.below B7).2.2 0 _ rfl, (Hs.out.below B7).2.2 1 _ rfl⟩) (fun hHeld => ?_)
      clear hK KK
      refine wpAnyH_ready (rs := [4]) (by kernel_rfl) (by simp) ?_
      refine AllReadyH.cons rfl (fun KK hK => ?_) AllReadyH.nil
      go_simp
      go_wp2_with (first | (go_at_call 13; refine (SP3.out _).mono ?_; rintro e w8 ⟨rfl, h7⟩; have B8 : Below wv9.heap.size wv9 w8 := B7.trans (h7.mono s7); have s8 := B8.size; clear h7))
      refine hK.out _ _ (⟨(Hp.out.below B8).2.2 0 _ rfl, (Hp.out.below B8).2.2 1 _ rfl, (Hq.out.below B8).2.2 0 _ rfl, (Hq.out.below B8).2.2 1 _ rfl, (Ha.out.below B8).2.2 0 _ rfl, (Ha.out.below B8).2.2 1 _ rfl, (Hb.out.below B8).2.2 0 _ rfl, (Hb.out.below B8).2.2 1 _ rfl, (Hs.out.below B8).2.2 0 _ rfl, (Hs.out.below B8).2.2 1 _ rfl⟩) (fun hHeld => ?_)
      clear hK KK
      refine wpAnyH_take (i := 5) (v := .bool false) rfl (by kernel_rfl) (by kernel_rfl) (by kernel_rfl) (fun _ _ _ h => h) (Or.inl ⟨by kernel_rfl, ?_⟩) hHeld ?_
      · intro w' hSw
        obtain ⟨sp0_, sp1_, sq0_, sq1_, sa0_, sa1_, sb0_, sb1_, ss0_, ss1_⟩ := hSw
        first | (go_simp; done) | (go_simp; with_reducible rfl) | (go_simp; rw [IntKind.wrap_i64]; omega) | (go_simp; omega)
      simp only [Act.put, List.setIfInBounds_toArray, List.set_cons_zero, List.set_cons_succ]
      refine wpAnyH_take (i := 6) (v := .bool false) rfl (by kernel_rfl) (by kernel_rfl) (by kernel_rfl) (fun _ _ _ h => h) (Or.inl ⟨by kernel_rfl, ?_⟩) hHeld ?_
      · intro w' hSw
        obtain ⟨sp0_, sp1_, sq0_, sq1_, sa0_, sa1_, sb0_, sb1_, ss0_, ss1_⟩ := hSw
        first | (go_simp; done) | (go_simp; with_reducible rfl) | (go_simp; rw [IntKind.wrap_i64]; omega) | (go_simp; omega)
      simp only [Act.put, List.setIfInBounds_toArray, List.set_cons_zero, List.set_cons_succ]
      refine wpAnyH_take (i := 7) (v := .pointer (some ⟨gp, 0, none⟩)) rfl (by kernel_rfl) (by kernel_rfl) (by kernel_rfl) (fun _ _ _ h => h) (Or.inl ⟨by kernel_rfl, ?_⟩) hHeld ?_
      · intro w' hSw
        obtain ⟨sp0_, sp1_, sq0_, sq1_, sa0_, sa1_, sb0_, sb1_, ss0_, ss1_⟩ := hSw
        first | (go_simp; done) | (go_simp; with_reducible rfl) | (go_simp; rw [IntKind.wrap_i64]; omega) | (go_simp; omega)
      simp only [Act.put, List.setIfInBounds_toArray, List.set_cons_zero, List.set_cons_succ]
      refine wpAnyH_take (i := 8) (v := .float .f64 r1) rfl (by kernel_rfl) (by kernel_rfl) (by kernel_rfl) (fun _ _ _ h => h) (Or.inl ⟨by kernel_rfl, ?_⟩) hHeld ?_
      · intro w' hSw
        obtain ⟨sp0_, sp1_, sq0_, sq1_, sa0_, sa1_, sb0_, sb1_, ss0_, ss1_⟩ := hSw
        first | (go_simp; done) | (go_simp; with_reducible rfl) | (go_simp; rw [IntKind.wrap_i64]; omega) | (go_simp; omega)
      simp only [Act.put, List.setIfInBounds_toArray, List.set_cons_zero, List.set_cons_succ]
      refine wpAnyH_take (i := 9) (v := .pointer (some ⟨gq, 0, none⟩)) rfl (by kernel_rfl) (by kernel_rfl) (by kernel_rfl) (fun _ _ _ h => h) (Or.inl ⟨by kernel_rfl, ?_⟩) hHeld ?_
      · intro w' hSw
        obtain ⟨sp0_, sp1_, sq0_, sq1_, sa0_, sa1_, sb0_, sb1_, ss0_, ss1_⟩ := hSw
        first | (go_simp; done) | (go_simp; with_reducible rfl) | (go_simp; rw [IntKind.wrap_i64]; omega) | (go_simp; omega)
      simp only [Act.put, List.setIfInBounds_toArray, List.set_cons_zero, List.set_cons_succ]
      refine wpAnyH_take (i := 10) (v := .float .f64 r2) rfl (by kernel_rfl) (by kernel_rfl) (by kernel_rfl) (fun _ _ _ h => h) (Or.inl ⟨by kernel_rfl, ?_⟩) hHeld ?_
      · intro w' hSw
        obtain ⟨sp0_, sp1_, sq0_, sq1_, sa0_, sa1_, sb0_, sb1_, ss0_, ss1_⟩ := hSw
        first | (go_simp; done) | (go_simp; with_reducible rfl) | (go_simp; rw [IntKind.wrap_i64]; omega) | (go_simp; omega)
      simp only [Act.put, List.setIfInBounds_toArray, List.set_cons_zero, List.set_cons_succ]
      refine wpAnyH_take (i := 11) (v := .bool true) rfl (by kernel_rfl) (by kernel_rfl) (by kernel_rfl) (fun _ _ _ h => h) (Or.inl ⟨by kernel_rfl, ?_⟩) hHeld ?_
      · intro w' hSw
        obtain ⟨sp0_, sp1_, sq0_, sq1_, sa0_, sa1_, sb0_, sb1_, ss0_, ss1_⟩ := hSw
        first | (go_simp; done) | (go_simp; with_reducible rfl) | (go_simp; rw [IntKind.wrap_i64]; omega) | (go_simp; omega)
      simp only [Act.put, List.setIfInBounds_toArray, List.set_cons_zero, List.set_cons_succ]
      refine wpAnyH_take (i := 12) (v := .bool true) rfl (by kernel_rfl) (by kernel_rfl) (by kernel_rfl) (fun _ _ _ h => h) (Or.inl ⟨by kernel_rfl, ?_⟩) hHeld ?_
      · intro w' hSw
        obtain ⟨sp0_, sp1_, sq0_, sq1_, sa0_, sa1_, sb0_, sb1_, ss0_, ss1_⟩ := hSw
        first | (go_simp; done) | (go_simp; with_reducible rfl) | (go_simp; rw [IntKind.wrap_i64]; omega) | (go_simp; omega)
      simp only [Act.put, List.setIfInBounds_toArray, List.set_cons_zero, List.set_cons_succ]
      refine wpAnyH_take (i := 13) (v := undef) rfl (by kernel_rfl) (by kernel_rfl) (by kernel_rfl) (fun _ _ _ h => h) (Or.inr ⟨by kernel_rfl, rfl⟩) hHeld ?_
      simp only [Act.put, List.setIfInBounds_toArray, List.set_cons_zero, List.set_cons_succ]
      refine wpAnyH_take (i := 14) (v := undef) rfl (by kernel_rfl) (by kernel_rfl) (by kernel_rfl) (fun _ _ _ h => h) (Or.inr ⟨by kernel_rfl, rfl⟩) hHeld ?_
      simp only [Act.put, List.setIfInBounds_toArray, List.set_cons_zero, List.set_cons_succ]
      refine wpAnyH_take (i := 15) (v := undef) rfl (by kernel_rfl) (by kernel_rfl) (by kernel_rfl) (fun _ _ _ h => h) (Or.inr ⟨by kernel_rfl, rfl⟩) hHeld ?_
      simp only [Act.put, List.setIfInBounds_toArray, List.set_cons_zero, List.set_cons_succ]
      refine wpAnyH_take (i := 16) (v := undef) rfl (by kernel_rfl) (by kernel_rfl) (by kernel_rfl) (fun _ _ _ h => h) (Or.inr ⟨by kernel_rfl, rfl⟩) hHeld ?_
      simp only [Act.put, List.setIfInBounds_toArray, List.set_cons_zero, List.set_cons_succ]
      refine wpAnyH_take (i := 17) (v := undef) rfl (by kernel_rfl) (by kernel_rfl) (by kernel_rfl) (fun _ _ _ h => h) (Or.inr ⟨by kernel_rfl, rfl⟩) hHeld ?_
      simp only [Act.put, List.setIfInBounds_toArray, List.set_cons_zero, List.set_cons_succ]
      refine wpAnyH_take (i := 18) (v := .bool true) rfl (by kernel_rfl) (by kernel_rfl) (by kernel_rfl) (fun _ _ _ h => h) (Or.inl ⟨by kernel_rfl, ?_⟩) hHeld ?_
      · intro w' hSw
        obtain ⟨sp0_, sp1_, sq0_, sq1_, sa0_, sa1_, sb0_, sb1_, ss0_, ss1_⟩ := hSw
        first | (go_simp; done) | (go_simp; with_reducible rfl) | (go_simp; rw [IntKind.wrap_i64]; omega) | (go_simp; omega)
      simp only [Act.put, List.setIfInBounds_toArray, List.set_cons_zero, List.set_cons_succ]
      refine wpAnyH_take (i := 19) (v := .bool false) rfl (by kernel_rfl) (by kernel_rfl) (by kernel_rfl) (fun _ _ _ h => h) (Or.inl ⟨by kernel_rfl, ?_⟩) hHeld ?_
      · intro w' hSw
        obtain ⟨sp0_, sp1_, sq0_, sq1_, sa0_, sa1_, sb0_, sb1_, ss0_, ss1_⟩ := hSw
        first | (go_simp; done) | (go_simp; with_reducible rfl) | (go_simp; rw [IntKind.wrap_i64]; omega) | (go_simp; omega)
      simp only [Act.put, List.setIfInBounds_toArray, List.set_cons_zero, List.set_cons_succ]
      refine wpAnyH_take (i := 20) (v := .bool false) rfl (by kernel_rfl) (by kernel_rfl) (by kernel_rfl) (fun _ _ _ h => h) (Or.inl ⟨by kernel_rfl, ?_⟩) hHeld ?_
      · intro w' hSw
        obtain ⟨sp0_, sp1_, sq0_, sq1_, sa0_, sa1_, sb0_, sb1_, ss0_, ss1_⟩ := hSw
        first | (go_simp; done) | (go_simp; with_reducible rfl) | (go_simp; rw [IntKind.wrap_i64]; omega) | (go_simp; omega)
      simp only [Act.put, List.setIfInBounds_toArray, List.set_cons_zero, List.set_cons_succ]
      refine wpAnyH_take (i := 21) (v := .bool false) rfl (by kernel_rfl) (by kernel_rfl) (by kernel_rfl) (fun _ _ _ h => h) (Or.inl ⟨by kernel_rfl, ?_⟩) hHeld ?_
      · intro w' hSw
        obtain ⟨sp0_, sp1_, sq0_, sq1_, sa0_, sa1_, sb0_, sb1_, ss0_, ss1_⟩ := hSw
        first | (go_simp; done) | (go_simp; with_reducible rfl) | (go_simp; rw [IntKind.wrap_i64]; omega) | (go_simp; omega)
      simp only [Act.put, List.setIfInBounds_toArray, List.set_cons_zero, List.set_cons_succ]
      refine wpAnyH_take (i := 22) (v := .pointer (some ⟨gp, 1, none⟩)) rfl (by kernel_rfl) (by kernel_rfl) (by kernel_rfl) (fun _ _ _ h => h) (Or.inl ⟨by kernel_rfl, ?_⟩) hHeld ?_
      · intro w' hSw
        obtain ⟨sp0_, sp1_, sq0_, sq1_, sa0_, sa1_, sb0_, sb1_, ss0_, ss1_⟩ := hSw
        first | (go_simp; done) | (go_simp; with_reducible rfl) | (go_simp; rw [IntKind.wrap_i64]; omega) | (go_simp; omega)
      simp only [Act.put, List.setIfInBounds_toArray, List.set_cons_zero, List.set_cons_succ]
      refine wpAnyH_take (i := 23) (v := .float .f64 i1) rfl (by kernel_rfl) (by kernel_rfl) (by kernel_rfl) (fun _ _ _ h => h) (Or.inl ⟨by kernel_rfl, ?_⟩) hHeld ?_
      · intro w' hSw
        obtain ⟨sp0_, sp1_, sq0_, sq1_, sa0_, sa1_, sb0_, sb1_, ss0_, ss1_⟩ := hSw
        first | (go_simp; done) | (go_simp; with_reducible rfl) | (go_simp; rw [IntKind.wrap_i64]; omega) | (go_simp; omega)
      simp only [Act.put, List.setIfInBounds_toArray, List.set_cons_zero, List.set_cons_succ]
      refine wpAnyH_take (i := 24) (v := .pointer (some ⟨gq, 1, none⟩)) rfl (by kernel_rfl) (by kernel_rfl) (by kernel_rfl) (fun _ _ _ h => h) (Or.inl ⟨by kernel_rfl, ?_⟩) hHeld ?_
      · intro w' hSw
        obtain ⟨sp0_, sp1_, sq0_, sq1_, sa0_, sa1_, sb0_, sb1_, ss0_, ss1_⟩ := hSw
        first | (go_simp; done) | (go_simp; with_reducible rfl) | (go_simp; rw [IntKind.wrap_i64]; omega) | (go_simp; omega)
      simp only [Act.put, List.setIfInBounds_toArray, List.set_cons_zero, List.set_cons_succ]
      refine wpAnyH_take (i := 25) (v := .float .f64 i2) rfl (by kernel_rfl) (by kernel_rfl) (by kernel_rfl) (fun _ _ _ h => h) (Or.inl ⟨by kernel_rfl, ?_⟩) hHeld ?_
      · intro w' hSw
        obtain ⟨sp0_, sp1_, sq0_, sq1_, sa0_, sa1_, sb0_, sb1_, ss0_, ss1_⟩ := hSw
        first | (go_simp; done) | (go_simp; with_reducible rfl) | (go_simp; rw [IntKind.wrap_i64]; omega) | (go_simp; omega)
      simp only [Act.put, List.setIfInBounds_toArray, List.set_cons_zero, List.set_cons_succ]
      refine wpAnyH_take (i := 26) (v := .bool false) rfl (by kernel_rfl) (by kernel_rfl) (by kernel_rfl) (fun _ _ _ h => h) (Or.inl ⟨by kernel_rfl, ?_⟩) hHeld ?_
      · intro w' hSw
        obtain ⟨sp0_, sp1_, sq0_, sq1_, sa0_, sa1_, sb0_, sb1_, ss0_, ss1_⟩ := hSw
        first | (go_simp; done) | (go_simp; with_reducible rfl) | (go_simp; rw [IntKind.wrap_i64]; omega) | (go_simp; omega)
      simp only [Act.put, List.setIfInBounds_toArray, List.set_cons_zero, List.set_cons_succ]
      refine wpAnyH_take (i := 27) (v := .bool false) rfl (by kernel_rfl) (by kernel_rfl) (by kernel_rfl) (fun _ _ _ h => h) (Or.inl ⟨by kernel_rfl, ?_⟩) hHeld ?_
      · intro w' hSw
        obtain ⟨sp0_, sp1_, sq0_, sq1_, sa0_, sa1_, sb0_, sb1_, ss0_, ss1_⟩ := hSw
        first | (go_simp; done) | (go_simp; with_reducible rfl) | (go_simp; rw [IntKind.wrap_i64]; omega) | (go_simp; omega)
      simp only [Act.put, List.setIfInBounds_toArray, List.set_cons_zero, List.set_cons_succ]
      refine wpAnyH_take (i := 28) (v := .pointer (some ⟨gp, 1, none⟩)) rfl (by kernel_rfl) (by kernel_rfl) (by kernel_rfl) (fun _ _ _ h => h) (Or.inl ⟨by kernel_rfl, ?_⟩) hHeld ?_
      · intro w' hSw
        obtain ⟨sp0_, sp1_, sq0_, sq1_, sa0_, sa1_, sb0_, sb1_, ss0_, ss1_⟩ := hSw
        first | (go_simp; done) | (go_simp; with_reducible rfl) | (go_simp; rw [IntKind.wrap_i64]; omega) | (go_simp; omega)
      simp only [Act.put, List.setIfInBounds_toArray, List.set_cons_zero, List.set_cons_succ]
      refine wpAnyH_take (i := 29) (v := .float .f64 i1) rfl (by kernel_rfl) (by kernel_rfl) (by kernel_rfl) (fun _ _ _ h => h) (Or.inl ⟨by kernel_rfl, ?_⟩) hHeld ?_
      · intro w' hSw
        obtain ⟨sp0_, sp1_, sq0_, sq1_, sa0_, sa1_, sb0_, sb1_, ss0_, ss1_⟩ := hSw
        first | (go_simp; done) | (go_simp; with_reducible rfl) | (go_simp; rw [IntKind.wrap_i64]; omega) | (go_simp; omega)
      simp only [Act.put, List.setIfInBounds_toArray, List.set_cons_zero, List.set_cons_succ]
      refine wpAnyH_take (i := 30) (v := .pointer (some ⟨gp, 1, none⟩)) rfl (by kernel_rfl) (by kernel_rfl) (by kernel_rfl) (fun _ _ _ h => h) (Or.inl ⟨by kernel_rfl, ?_⟩) hHeld ?_
      · intro w' hSw
        obtain ⟨sp0_, sp1_, sq0_, sq1_, sa0_, sa1_, sb0_, sb1_, ss0_, ss1_⟩ := hSw
        first | (go_simp; done) | (go_simp; with_reducible rfl) | (go_simp; rw [IntKind.wrap_i64]; omega) | (go_simp; omega)
      simp only [Act.put, List.setIfInBounds_toArray, List.set_cons_zero, List.set_cons_succ]
      refine wpAnyH_take (i := 31) (v := .float .f64 i1) rfl (by kernel_rfl) (by kernel_rfl) (by kernel_rfl) (fun _ _ _ h => h) (Or.inl ⟨by kernel_rfl, ?_⟩) hHeld ?_
      · intro w' hSw
        obtain ⟨sp0_, sp1_, sq0_, sq1_, sa0_, sa1_, sb0_, sb1_, ss0_, ss1_⟩ := hSw
        first | (go_simp; done) | (go_simp; with_reducible rfl) | (go_simp; rw [IntKind.wrap_i64]; omega) | (go_simp; omega)
      simp only [Act.put, List.setIfInBounds_toArray, List.set_cons_zero, List.set_cons_succ]
      refine wpAnyH_take (i := 32) (v := .bool true) rfl (by kernel_rfl) (by kernel_rfl) (by kernel_rfl) (fun _ _ _ h => h) (Or.inl ⟨by kernel_rfl, ?_⟩) hHeld ?_
      · intro w' hSw
        obtain ⟨sp0_, sp1_, sq0_, sq1_, sa0_, sa1_, sb0_, sb1_, ss0_, ss1_⟩ := hSw
        first | (go_simp; done) | (go_simp; with_reducible rfl) | (go_simp; rw [IntKind.wrap_i64]; omega) | (go_simp; omega)
      simp only [Act.put, List.setIfInBounds_toArray, List.set_cons_zero, List.set_cons_succ]
      refine wpAnyH_take (i := 33) (v := .bool true) rfl (by kernel_rfl) (by kernel_rfl) (by kernel_rfl) (fun _ _ _ h => h) (Or.inl ⟨by kernel_rfl, ?_⟩) hHeld ?_
      · intro w' hSw
        obtain ⟨sp0_, sp1_, sq0_, sq1_, sa0_, sa1_, sb0_, sb1_, ss0_, ss1_⟩ := hSw
        first | (go_simp; done) | (go_simp; with_reducible rfl) | (go_simp; rw [IntKind.wrap_i64]; omega) | (go_simp; omega)
      simp only [Act.put, List.setIfInBounds_toArray, List.set_cons_zero, List.set_cons_succ]
      refine wpAnyH_take (i := 34) (v := .bool false) rfl (by kernel_rfl) (by kernel_rfl) (by kernel_rfl) (fun _ _ _ h => h) (Or.inl ⟨by kernel_rfl, ?_⟩) hHeld ?_
      · intro w' hSw
        obtain ⟨sp0_, sp1_, sq0_, sq1_, sa0_, sa1_, sb0_, sb1_, ss0_, ss1_⟩ := hSw
        first | (go_simp; done) | (go_simp; with_reducible rfl) | (go_simp; rw [IntKind.wrap_i64]; omega) | (go_simp; omega)
      simp only [Act.put, List.setIfInBounds_toArray, List.set_cons_zero, List.set_cons_succ]
      refine wpAnyH_take (i := 35) (v := .bool false) rfl (by kernel_rfl) (by kernel_rfl) (by kernel_rfl) (fun _ _ _ h => h) (Or.inl ⟨by kernel_rfl, ?_⟩) hHeld ?_
      · intro w' hSw
        obtain ⟨sp0_, sp1_, sq0_, sq1_, sa0_, sa1_, sb0_, sb1_, ss0_, ss1_⟩ := hSw
        first | (go_simp; done) | (go_simp; with_reducible rfl) | (go_simp; rw [IntKind.wrap_i64]; omega) | (go_simp; omega)
      simp only [Act.put, List.setIfInBounds_toArray, List.set_cons_zero, List.set_cons_succ]
      refine wpAnyH_take (i := 36) (v := .bool false) rfl (by kernel_rfl) (by kernel_rfl) (by kernel_rfl) (fun _ _ _ h => h) (Or.inl ⟨by kernel_rfl, ?_⟩) hHeld ?_
      · intro w' hSw
        obtain ⟨sp0_, sp1_, sq0_, sq1_, sa0_, sa1_, sb0_, sb1_, ss0_, ss1_⟩ := hSw
        first | (go_simp; done) | (go_simp; with_reducible rfl) | (go_simp; rw [IntKind.wrap_i64]; omega) | (go_simp; omega)
      simp only [Act.put, List.setIfInBounds_toArray, List.set_cons_zero, List.set_cons_succ]
      refine wpAnyH_take (i := 37) (v := .agg #[.float .f64 r5, .float .f64 i5]) rfl (by kernel_rfl) (by kernel_rfl) (by kernel_rfl) (fun _ _ _ h => h) (Or.inl ⟨by kernel_rfl, ?_⟩) hHeld ?_
      · intro w' hSw
        obtain ⟨sp0_, sp1_, sq0_, sq1_, sa0_, sa1_, sb0_, sb1_, ss0_, ss1_⟩ := hSw
        first | (go_simp; done) | (go_simp; with_reducible rfl) | (go_simp; rw [IntKind.wrap_i64]; omega) | (go_simp; omega)
      simp only [Act.put, List.setIfInBounds_toArray, List.set_cons_zero, List.set_cons_succ]
      refine wpAnyH_take (i := 38) (v := .agg #[.float .f64 z, .float .f64 u]) rfl (by kernel_rfl) (by kernel_rfl) (by kernel_rfl) (fun _ _ _ h => h) (Or.inl ⟨by kernel_rfl, ?_⟩) hHeld ?_
      · intro w' hSw
        obtain ⟨sp0_, sp1_, sq0_, sq1_, sa0_, sa1_, sb0_, sb1_, ss0_, ss1_⟩ := hSw
        first | (go_simp; done) | (go_simp; with_reducible rfl) | (go_simp; rw [IntKind.wrap_i64]; omega) | (go_simp; omega)
      simp only [Act.put, List.setIfInBounds_toArray, List.set_cons_zero, List.set_cons_succ]
      refine wpAnyH_take (i := 39) (v := .agg #[.float .f64 x, .float .f64 y]) rfl (by kernel_rfl) (by kernel_rfl) (by kernel_rfl) (fun _ _ _ h => h) (Or.inl ⟨by kernel_rfl, ?_⟩) hHeld ?_
      · intro w' hSw
        obtain ⟨sp0_, sp1_, sq0_, sq1_, sa0_, sa1_, sb0_, sb1_, ss0_, ss1_⟩ := hSw
        first | (go_simp; done) | (go_simp; with_reducible rfl) | (go_simp; rw [IntKind.wrap_i64]; omega) | (go_simp; omega)
      simp only [Act.put, List.setIfInBounds_toArray, List.set_cons_zero, List.set_cons_succ]
      refine wpAnyH_ready (rs := [40]) (by kernel_rfl) (by simp) ?_
      refine AllReadyH.cons rfl (fun KK hK => ?_) AllReadyH.nil
      go_simp
      go_wp2_with (first | (go_at_call 12; refine (implAddPair_any fc.out fd.out fa.out fb.out _).mono ?_; rintro e w9 ⟨r6, i6, rfl, f6_, g6_, h7⟩; have f6 : Hid (Fl r6 (opO .add a c_)) := (by show Fl _ _; rw [oadd_comm]; exact f6_); have g6 : Hid (Fl i6 (opO .add b d)) := (by show Fl _ _; rw [oadd_comm]; exact g6_); have SP6 : Hid (∀ w, Calls Try.prog 13 #[.agg #[.float .f64 r5, .float .f64 i5], .agg #[.float .f64 r6, .float .f64 i6]] w fun e w' => e = .returned (.bool true) ∧ Below w.heap.size w w') := fun w => (by have q := implSamePair_any r5 i5 r6 i6 f5.out.1 g5.out.1 f6.out.1 g6.out.1 w; rw [fl_same f5.out f6.out, fl_same g5.out g6.out] at q; exact q); have B9 : Below wv9.heap.size wv9 w9 := B8.trans (h7.mono s8); have s9 := B9.size; clear h7 f6_ g6_))
      refine hK.out _ _ (⟨(Hp.out.below B9).2.2 0 _ rfl, (Hp.out.below B9).2.2 1 _ rfl, (Hq.out.below B9).2.2 0 _ rfl, (Hq.out.below B9).2.2 1 _ rfl, (Ha.out.below B9).2.2 0 _ rfl, (Ha.out.below B9).2.2 1 _ rfl, (Hb.out.below B9).2.2 0 _ rfl, (Hb.out.below B9).2.2 1 _ rfl, (Hs.out.below B9).2.2 0 _ rfl, (Hs.out.below B9).2.2 1 _ rfl⟩) (fun hHeld => ?_)
      clear hK KK
      refine wpAnyH_ready (rs := [41]) (by kernel_rfl) (by simp) ?_
      refine AllReadyH.cons rfl (fun KK hK => ?_) AllReadyH.nil
      go_simp
      go_wp2_with (first | (go_at_call 13; refine (SP6.out _).mono ?_; rintro e w10 ⟨rfl, h7⟩; have B10 : Below wv9.heap.size wv9 w10 := B9.trans (h7.mono s9); have s10 := B10.size; clear h7))
      refine hK.out _ _ (⟨(Hp.out.below B10).2.2 0 _ rfl, (Hp.out.below B10).2.2 1 _ rfl, (Hq.out.below B10).2.2 0 _ rfl, (Hq.out.below B10).2.2 1 _ rfl, (Ha.out.below B10).2.2 0 _ rfl, (Ha.out.below B10).2.2 1 _ rfl, (Hb.out.below B10).2.2 0 _ rfl, (Hb.out.below B10).2.2 1 _ rfl, (Hs.out.below B10).2.2 0 _ rfl, (Hs.out.below B10).2.2 1 _ rfl⟩) (fun hHeld => ?_)
      clear hK KK
      refine wpAnyH_take (i := 42) (v := .bool false) rfl (by kernel_rfl) (by kernel_rfl) (by kernel_rfl) (fun _ _ _ h => h) (Or.inl ⟨by kernel_rfl, ?_⟩) hHeld ?_
      · intro w' hSw
        obtain ⟨sp0_, sp1_, sq0_, sq1_, sa0_, sa1_, sb0_, sb1_, ss0_, ss1_⟩ := hSw
        first | (go_simp; done) | (go_simp; with_reducible rfl) | (go_simp; rw [IntKind.wrap_i64]; omega) | (go_simp; omega)
      simp only [Act.put, List.setIfInBounds_toArray, List.set_cons_zero, List.set_cons_succ]
      refine wpAnyH_ready (rs := [43]) (by kernel_rfl) (by simp) ?_
      refine AllReadyH.cons rfl (fun KK hK => ?_) AllReadyH.nil
      go_simp
      refine hK.out _ _ hHeld (fun hHeld => ?_)
      clear hK KK
      refine wpAnyH_done (by kernel_rfl) ?_ _
      have bl_ := B10
      clear hHeld B7 B8 B9 s7 s8 s9 s10 f3 g3 f6 g6 SP3 SP6
      replace Ha : Hid (Blk w10 ga [.float .f64 x, .float .f64 y]) := Ha.out.below bl_
      replace Hb : Hid (Blk w10 gb [.float .f64 z, .float .f64 u]) := Hb.out.below bl_
      replace Hp : Hid (Blk w10 gp [.float .f64 r1, .float .f64 i1]) := Hp.out.below bl_
      replace Hq : Hid (Blk w10 gq [.float .f64 r2, .float .f64 i2]) := Hq.out.below bl_
      replace Hs : Hid (Blk w10 gs [.float .f64 r5, .float .f64 i5]) := Hs.out.below bl_
      replace HB : Hid (Below w1.heap.size w1 w10) := HB.out.trans (bl_.mono HB.out.size)
      clear bl_ B10
      clear Hp
      clear Hq
      clear Hs
      have KX : Hid (∀ w : World, Calls Try.prog 15 #[.float .f64 x] w fun e w' => e = .returned (.bool (knownB x)) ∧ ∃ n, w' = w.drewN n) := fun w => specKnown_any x w
      have KY : Hid (∀ w : World, Calls Try.prog 15 #[.float .f64 y] w fun e w' => e = .returned (.bool (knownB y)) ∧ ∃ n, w' = w.drewN n) := fun w => specKnown_any y w
      obtain ⟨z_a, f_a, c_a⟩ := Ha.out
      have ac0 : w10.cell? ⟨ga, 0, none⟩ = some (.float .f64 x) := c_a 0 _ rfl
      have ac1 : w10.cell? ⟨ga, 1, none⟩ = some (.float .f64 y) := c_a 1 _ rfl
      clear f_a c_a
      go_wp2_with fail
      refine (KX.out _).mono ?_
      rintro e wv10 ⟨rfl, q_, hw⟩
      have h_ : Below w10.heap.size w10 wv10 := by rw [hw]; exact (by repeat (first | with_reducible exact Below.refl _ _ | with_reducible refine Below.setCell ?_ (by first | omega | (simp; done) | (simp; omega)) _ | with_reducible refine bDrewN ?_ _ | with_reducible refine Below.drew ?_ | with_reducible refine Below.alloc ?_ (by first | omega | (simp; done) | (simp; omega)) _))
      clear hw
      replace Ha : Hid (Blk wv10 ga [.float .f64 x, .float .f64 y]) := Ha.out.below h_
      replace Hb : Hid (Blk wv10 gb [.float .f64 z, .float .f64 u]) := Hb.out.below h_
      replace HB : Hid (Below w1.heap.size w1 wv10) := HB.out.trans (h_.mono HB.out.size)
      clear h_
      clear ac0 ac1 z_a
      cases kx : knownB x
      case false =>
        have BF := HB.out
        have sBF := BF.size
        go_wp2
        go_ret
        exact ⟨rfl, (by repeat (first | with_reducible exact Below.refl _ _ | with_reducible exact BF | with_reducible refine Below.setCell ?_ (by first | omega | (simp; done) | (simp; omega)) _ | with_reducible refine bDrewN ?_ _ | with_reducible refine Below.drew ?_ | with_reducible refine Below.alloc ?_ (by first | omega | (simp; done) | (simp; omega)) _))⟩
      case true =>
        obtain ⟨z_a, f_a, c_a⟩ := Ha.out
        have ac0 : wv10.cell? ⟨ga, 0, none⟩ = some (.float .f64 x) := c_a 0 _ rfl
        have ac1 : wv10.cell? ⟨ga, 1, none⟩ = some (.float .f64 y) := c_a 1 _ rfl
        clear f_a c_a
        go_wp2_with fail
        refine (KY.out _).mono ?_
        rintro e wv11 ⟨rfl, q_, hw⟩
        have h_ : Below wv10.heap.size wv10 wv11 := by rw [hw]; exact (by repeat (first | with_reducible exact Below.refl _ _ | with_reducible refine Below.setCell ?_ (by first | omega | (simp; done) | (simp; omega)) _ | with_reducible refine bDrewN ?_ _ | with_reducible refine Below.drew ?_ | with_reducible refine Below.alloc ?_ (by first | omega | (simp; done) | (simp; omega)) _))
        clear hw
        replace Ha : Hid (Blk wv11 ga [.float .f64 x, .float .f64 y]) := Ha.out.below h_
        replace Hb : Hid (Blk wv11 gb [.float .f64 z, .float .f64 u]) := Hb.out.below h_
        replace HB : Hid (Below w1.heap.size w1 wv11) := HB.out.trans (h_.mono HB.out.size)
        clear h_
        clear ac0 ac1 z_a
        cases ky : knownB y
        case false =>
          have BF := HB.out
          have sBF := BF.size
          go_wp2
          go_ret
          exact ⟨rfl, (by repeat (first | with_reducible exact Below.refl _ _ | with_reducible exact BF | with_reducible refine Below.setCell ?_ (by first | omega | (simp; done) | (simp; omega)) _ | with_reducible refine bDrewN ?_ _ | with_reducible refine Below.drew ?_ | with_reducible refine Below.alloc ?_ (by first | omega | (simp; done) | (simp; omega)) _))⟩
        case true =>
          have hx0 : rg x < INF := of_decide_eq_true kx
          have hy0 : rg y < INF := of_decide_eq_true ky
          clear kx ky
          have FX : Hid (Fl x (some x)) := ⟨lx, .inl ⟨Nat.le_of_lt hx0, rfl⟩⟩
          have FY : Hid (Fl y (some y)) := ⟨ly, .inl ⟨Nat.le_of_lt hy0, rfl⟩⟩
          obtain ⟨z_a, f_a, c_a⟩ := Ha.out
          have ac0 : wv11.cell? ⟨ga, 0, none⟩ = some (.float .f64 x) := c_a 0 _ rfl
          have ac1 : wv11.cell? ⟨ga, 1, none⟩ = some (.float .f64 y) := c_a 1 _ rfl
          clear f_a c_a
          go_wp2_with fail
          refine (implSubPair_any FX.out FY.out FX.out FY.out _).mono ?_
          rintro e wv12 ⟨r7, i7, rfl, f7, g7, h_⟩
          replace Ha : Hid (Blk wv12 ga [.float .f64 x, .float .f64 y]) := Ha.out.below h_
          replace Hb : Hid (Blk wv12 gb [.float .f64 z, .float .f64 u]) := Hb.out.below h_
          replace HB : Hid (Below w1.heap.size w1 wv12) := HB.out.trans (h_.mono HB.out.size)
          clear h_
          clear ac0 ac1 z_a
          rw [sub_self_o hx0] at f7
          rw [sub_self_o hy0] at g7
          obtain rfl : r7 = 0 := fl_val f7
          obtain rfl : i7 = 0 := fl_val g7
          clear f7 g7
          go_upto_region 12 with fail
          obtain ⟨wv13, hw_⟩ : ∃ x_, x_ = wv12.alloc (.cells #[.float .f64 0, .float .f64 0] 26) := ⟨_, rfl⟩
          rw [← hw_]
          have Hd : Hid (Blk wv13 wv12.heap.size [.float .f64 0, .float .f64 0]) := by show Blk _ _ _; rw [hw_]; exact Blk.new wv12 #[.float .f64 0, .float .f64 0] _
          have bl_ : Below wv12.heap.size wv12 wv13 := by rw [hw_]; exact below0 _ _
          clear hw_
          replace Ha : Hid (Blk wv13 ga [.float .f64 x, .float .f64 y]) := Ha.out.below bl_
          replace Hb : Hid (Blk wv13 gb [.float .f64 z, .float .f64 u]) := Hb.out.below bl_
          replace HB : Hid (Below w1.heap.size w1 wv13) := HB.out.trans (bl_.mono HB.out.size)
          obtain ⟨gd, hg_⟩ : ∃ g, g = wv12.heap.size := ⟨_, rfl⟩
          rw [← hg_] at Hd ⊢
          clear hg_ bl_
          obtain ⟨z_a, f_a, c_a⟩ := Ha.out
          have ac0 : wv13.cell? ⟨ga, 0, none⟩ = some (.float .f64 x) := c_a 0 _ rfl
          have ac1 : wv13.cell? ⟨ga, 1, none⟩ = some (.float .f64 y) := c_a 1 _ rfl
          clear f_a c_a
          go_wp2_with fail
          refine (implPower_any FX.out FY.out FX.out FY.out _).mono ?_
          rintro e wv14 ⟨r8, i8, rfl, f8, g8, h_⟩
          replace Ha : Hid (Blk wv14 ga [.float .f64 x, .float .f64 y]) := Ha.out.below h_
          replace Hb : Hid (Blk wv14 gb [.float .f64 z, .float .f64 u]) := Hb.out.below h_
          replace Hd : Hid (Blk wv14 gd [.float .f64 0, .float .f64 0]) := Hd.out.below h_
          replace HB : Hid (Below w1.heap.size w1 wv14) := HB.out.trans (h_.mono HB.out.size)
          clear h_
          clear ac0 ac1 z_a
          go_upto_region 13 with fail
          obtain ⟨wv15, hw_⟩ : ∃ x_, x_ = wv14.alloc (.cells #[.float .f64 r8, .float .f64 i8] 26) := ⟨_, rfl⟩
          rw [← hw_]
          have Hw : Hid (Blk wv15 wv14.heap.size [.float .f64 r8, .float .f64 i8]) := by show Blk _ _ _; rw [hw_]; exact Blk.new wv14 #[.float .f64 r8, .float .f64 i8] _
          have bl_ : Below wv14.heap.size wv14 wv15 := by rw [hw_]; exact below0 _ _
          clear hw_
          replace Ha : Hid (Blk wv15 ga [.float .f64 x, .float .f64 y]) := Ha.out.below bl_
          replace Hb : Hid (Blk wv15 gb [.float .f64 z, .float .f64 u]) := Hb.out.below bl_
          replace Hd : Hid (Blk wv15 gd [.float .f64 0, .float .f64 0]) := Hd.out.below bl_
          replace HB : Hid (Below w1.heap.size w1 wv15) := HB.out.trans (bl_.mono HB.out.size)
          obtain ⟨gw, hg_⟩ : ∃ g, g = wv14.heap.size := ⟨_, rfl⟩
          rw [← hg_] at Hw ⊢
          clear hg_ bl_
          have z0 : (FloatKind.f64.format.order 0 0 != some .eq) = false := by decide
          have HK : Hid (knownB r8 = true → (FloatKind.f64.format.order i8 0 == some .eq) = true) := power_known (power_self lx ly hx0 hy0) f8 g8
          clear f8 g8
          have KR : Hid (∀ w : World, Calls Try.prog 15 #[.float .f64 r8] w fun e w' => e = .returned (.bool (knownB r8)) ∧ ∃ n, w' = w.drewN n) := fun w => specKnown_any r8 w
          obtain ⟨z_d, f_d, c_d⟩ := Hd.out
          have dc0 : wv15.cell? ⟨gd, 0, none⟩ = some (.float .f64 0) := c_d 0 _ rfl
          have dc1 : wv15.cell? ⟨gd, 1, none⟩ = some (.float .f64 0) := c_d 1 _ rfl
          clear f_d c_d
          obtain ⟨z_w, f_w, c_w⟩ := Hw.out
          have wc0 : wv15.cell? ⟨gw, 0, none⟩ = some (.float .f64 r8) := c_w 0 _ rfl
          have wc1 : wv15.cell? ⟨gw, 1, none⟩ = some (.float .f64 i8) := c_w 1 _ rfl
          clear f_w c_w
          go_wp2_with fail
          refine (KR.out _).mono ?_
          rintro e wv16 ⟨rfl, q_, hw⟩
          have h_ : Below wv15.heap.size wv15 wv16 := by rw [hw]; exact (by repeat (first | with_reducible exact Below.refl _ _ | with_reducible refine Below.setCell ?_ (by first | omega | (simp; done) | (simp; omega)) _ | with_reducible refine bDrewN ?_ _ | with_reducible refine Below.drew ?_ | with_reducible refine Below.alloc ?_ (by first | omega | (simp; done) | (simp; omega)) _))
          clear hw
          replace Ha : Hid (Blk wv16 ga [.float .f64 x, .float .f64 y]) := Ha.out.below h_
          replace Hb : Hid (Blk wv16 gb [.float .f64 z, .float .f64 u]) := Hb.out.below h_
          replace Hd : Hid (Blk wv16 gd [.float .f64 0, .float .f64 0]) := Hd.out.below h_
          replace Hw : Hid (Blk wv16 gw [.float .f64 r8, .float .f64 i8]) := Hw.out.below h_
          replace HB : Hid (Below w1.heap.size w1 wv16) := HB.out.trans (h_.mono HB.out.size)
          clear h_
          clear dc0 dc1 z_d
          clear wc0 wc1 z_w
          cases kr : knownB r8
          case false =>
            obtain ⟨z_w, f_w, c_w⟩ := Hw.out
            have wc0 : wv16.cell? ⟨gw, 0, none⟩ = some (.float .f64 r8) := c_w 0 _ rfl
            have wc1 : wv16.cell? ⟨gw, 1, none⟩ = some (.float .f64 i8) := c_w 1 _ rfl
            clear f_w c_w
            have BF := HB.out
            have sBF := BF.size
            go_wp2
            go_ret
            exact ⟨rfl, (by repeat (first | with_reducible exact Below.refl _ _ | with_reducible exact BF | with_reducible refine Below.setCell ?_ (by first | omega | (simp; done) | (simp; omega)) _ | with_reducible refine bDrewN ?_ _ | with_reducible refine Below.drew ?_ | with_reducible refine Below.alloc ?_ (by first | omega | (simp; done) | (simp; omega)) _))⟩
          case true =>
            have hi := HK.out kr
            obtain ⟨z_w, f_w, c_w⟩ := Hw.out
            have wc0 : wv16.cell? ⟨gw, 0, none⟩ = some (.float .f64 r8) := c_w 0 _ rfl
            have wc1 : wv16.cell? ⟨gw, 1, none⟩ = some (.float .f64 i8) := c_w 1 _ rfl
            clear f_w c_w
            have BF := HB.out
            have sBF := BF.size
            go_wp2
            go_ret
            exact ⟨rfl, (by repeat (first | with_reducible exact Below.refl _ _ | with_reducible exact BF | with_reducible refine Below.setCell ?_ (by first | omega | (simp; done) | (simp; omega)) _ | with_reducible refine bDrewN ?_ _ | with_reducible refine Below.drew ?_ | with_reducible refine Below.alloc ?_ (by first | omega | (simp; done) | (simp; omega)) _))⟩
  · skip
    rcases E2 with e2 | ⟨e2, e2n⟩
    · skip
      refine wp_region_held_drew (S := fun w' => w'.cell? ⟨gp, 0, none⟩ = some (.float .f64 r1) ∧ w'.cell? ⟨gp, 1, none⟩ = some (.float .f64 i1) ∧ w'.cell? ⟨gq, 0, none⟩ = some (.float .f64 r2) ∧ w'.cell? ⟨gq, 1, none⟩ = some (.float .f64 i2) ∧ w'.cell? ⟨ga, 0, none⟩ = some (.float .f64 x) ∧ w'.cell? ⟨ga, 1, none⟩ = some (.float .f64 y) ∧ w'.cell? ⟨gb, 0, none⟩ = some (.float .f64 z) ∧ w'.cell? ⟨gb, 1, none⟩ = some (.float .f64 u) ∧ w'.cell? ⟨gs, 0, none⟩ = some (.float .f64 r5) ∧ w'.cell? ⟨gs, 1, none⟩ = some (.float .f64 i5)) (by kernel_rfl) ?_ (fun hHeld => ?_)
      · exact ⟨(Hp.out.below (show Below wv9.heap.size wv9 _ from (by repeat (first | with_reducible exact Below.refl _ _ | with_reducible refine Below.setCell ?_ (by first | omega | (simp; done) | (simp; omega)) _ | with_reducible refine bDrewN ?_ _ | with_reducible refine Below.drew ?_ | with_reducible refine Below.alloc ?_ (by first | omega | (simp; done) | (simp; omega)) _)))).2.2 0 _ rfl, (Hp.out.below (show Below wv9.heap.size wv9 _ from (by repeat (first | with_reducible exact Below.refl _ _ | with_reducible refine Below.setCell ?_ (by first | omega | (simp; done) | (simp; omega)) _ | with_reducible refine bDrewN ?_ _ | with_reducible refine Below.drew ?_ | with_reducible refine Below.alloc ?_ (by first | omega | (simp; done) | (simp; omega)) _)))).2.2 1 _ rfl, (Hq.out.below (show Below wv9.heap.size wv9 _ from (by repeat (first | with_reducible exact Below.refl _ _ | with_reducible refine Below.setCell ?_ (by first | omega | (simp; done) | (simp; omega)) _ | with_reducible refine bDrewN ?_ _ | with_reducible refine Below.drew ?_ | with_reducible refine Below.alloc ?_ (by first | omega | (simp; done) | (simp; omega)) _)))).2.2 0 _ rfl, (Hq.out.below (show Below wv9.heap.size wv9 _ from (by repeat (first | with_reducible exact Below.refl _ _ | with_reducible refine Below.setCell ?_ (by first | omega | (simp; done) | (simp; omega)) _ | with_reducible refine bDrewN ?_ _ | with_reducible refine Below.drew ?_ | with_reducible refine Below.alloc ?_ (by first | omega | (simp; done) | (simp; omega)) _)))).2.2 1 _ rfl, (Ha.out.below (show Below wv9.heap.size wv9 _ from (by repeat (first | with_reducible exact Below.refl _ _ | with_reducible refine Below.setCell ?_ (by first | omega | (simp; done) | (simp; omega)) _ | with_reducible refine bDrewN ?_ _ | with_reducible refine Below.drew ?_ | with_reducible refine Below.alloc ?_ (by first | omega | (simp; done) | (simp; omega)) _)))).2.2 0 _ rfl, (Ha.out.below (show Below wv9.heap.size wv9 _ from (by repeat (first | with_reducible exact Below.refl _ _ | with_reducible refine Below.setCell ?_ (by first | omega | (simp; done) | (simp; omega)) _ | with_reducible refine bDrewN ?_ _ | with_reducible refine Below.drew ?_ | with_reducible refine Below.alloc ?_ (by first | omega | (simp; done) | (simp; omega)) _)))).2.2 1 _ rfl, (Hb.out.below (show Below wv9.heap.size wv9 _ from (by repeat (first | with_reducible exact Below.refl _ _ | with_reducible refine Below.setCell ?_ (by first | omega | (simp; done) | (simp; omega)) _ | with_reducible refine bDrewN ?_ _ | with_reducible refine Below.drew ?_ | with_reducible refine Below.alloc ?_ (by first | omega | (simp; done) | (simp; omega)) _)))).2.2 0 _ rfl, (Hb.out.below (show Below wv9.heap.size wv9 _ from (by repeat (first | with_reducible exact Below.refl _ _ | with_reducible refine Below.setCell ?_ (by first | omega | (simp; done) | (simp; omega)) _ | with_reducible refine bDrewN ?_ _ | with_reducible refine Below.drew ?_ | with_reducible refine Below.alloc ?_ (by first | omega | (simp; done) | (simp; omega)) _)))).2.2 1 _ rfl, (Hs.out.below (show Below wv9.heap.size wv9 _ from (by repeat (first | with_reducible exact Below.refl _ _ | with_reducible refine Below.setCell ?_ (by first | omega | (simp; done) | (simp; omega)) _ | with_reducible refine bDrewN ?_ _ | with_reducible refine Below.drew ?_ | with_reducible refine Below.alloc ?_ (by first | omega | (simp; done) | (simp; omega)) _)))).2.2 0 _ rfl, (Hs.out.below (show Below wv9.heap.size wv9 _ from (by repeat (first | with_reducible exact Below.refl _ _ | with_reducible refine Below.setCell ?_ (by first | omega | (simp; done) | (simp; omega)) _ | with_reducible refine bDrewN ?_ _ | with_reducible refine Below.drew ?_ | with_reducible refine Below.alloc ?_ (by first | omega | (simp; done) | (simp; omega)) _)))).2.2 1 _ rfl⟩
      refine wpAnyH_take (i := 0) (v := .agg #[.float .f64 r1, .float .f64 i1]) rfl (by kernel_rfl) (by kernel_rfl) (by kernel_rfl) (fun _ _ _ h => h) (Or.inl ⟨by kernel_rfl, ?_⟩) hHeld ?_
      · intro w' hSw
        obtain ⟨sp0_, sp1_, sq0_, sq1_, sa0_, sa1_, sb0_, sb1_, ss0_, ss1_⟩ := hSw
        first | (go_simp; done) | (go_simp; with_reducible rfl) | (go_simp; rw [IntKind.wrap_i64]; omega) | (go_simp; omega)
      simp only [Act.put, List.setIfInBounds_toArray, List.set_cons_zero, List.set_cons_succ]
      refine wpAnyH_take (i := 1) (v := .agg #[.float .f64 x, .float .f64 y]) rfl (by kernel_rfl) (by kernel_rfl) (by kernel_rfl) (fun _ _ _ h => h) (Or.inl ⟨by kernel_rfl, ?_⟩) hHeld ?_
      · intro w' hSw
        obtain ⟨sp0_, sp1_, sq0_, sq1_, sa0_, sa1_, sb0_, sb1_, ss0_, ss1_⟩ := hSw
        first | (go_simp; done) | (go_simp; with_reducible rfl) | (go_simp; rw [IntKind.wrap_i64]; omega) | (go_simp; omega)
      simp only [Act.put, List.setIfInBounds_toArray, List.set_cons_zero, List.set_cons_succ]
      refine wpAnyH_take (i := 2) (v := .agg #[.float .f64 z, .float .f64 u]) rfl (by kernel_rfl) (by kernel_rfl) (by kernel_rfl) (fun _ _ _ h => h) (Or.inl ⟨by kernel_rfl, ?_⟩) hHeld ?_
      · intro w' hSw
        obtain ⟨sp0_, sp1_, sq0_, sq1_, sa0_, sa1_, sb0_, sb1_, ss0_, ss1_⟩ := hSw
        first | (go_simp; done) | (go_simp; with_reducible rfl) | (go_simp; rw [IntKind.wrap_i64]; omega) | (go_simp; omega)
      simp only [Act.put, List.setIfInBounds_toArray, List.set_cons_zero, List.set_cons_succ]
      refine wpAnyH_ready (rs := [3]) (by kernel_rfl) (by simp) ?_
      refine AllReadyH.cons rfl (fun KK hK => ?_) AllReadyH.nil
      go_simp
      go_wp2_with (first | (go_at_call 14; refine (specMulPair_any fa.out fb.out fc.out fd.out _).mono ?_; rintro e w7 ⟨r3, i3, rfl, f3_, g3_, h7⟩; have f3 : Hid (Fl r3 (mulRe a b c_ d)) := f3_; have g3 : Hid (Fl i3 (mulIm a b c_ d)) := g3_; have SP3 : Hid (∀ w, Calls Try.prog 13 #[.agg #[.float .f64 r1, .float .f64 i1], .agg #[.float .f64 r3, .float .f64 i3]] w fun e w' => e = .returned (.bool true) ∧ Below w.heap.size w w') := fun w => (by have q := implSamePair_any r1 i1 r3 i3 f1.out.1 g1.out.1 f3.out.1 g3.out.1 w; rw [fl_same f1.out f3.out, fl_same g1.out g3.out] at q; exact q); have B7 : Below wv9.heap.size wv9 w7 := (show Below wv9.heap.size wv9 _ from (by repeat (first | with_reducible exact Below.refl _ _ | with_reducible refine Below.setCell ?_ (by first | omega | (simp; done) | (simp; omega)) _ | with_reducible refine bDrewN ?_ _ | with_reducible refine Below.drew ?_ | with_reducible refine Below.alloc ?_ (by first | omega | (simp; done) | (simp; omega)) _))).trans (h7.mono (by first | omega | (simp; done) | (simp; omega))); have s7 := B7.size; clear h7 f3_ g3_))
      refine hK.out _ _ (⟨(Hp.out.below B7).2.2 0 _ rfl, (Hp.out.below B7).2.2 1 _ rfl, (Hq.out.below B7).2.2 0 _ rfl, (Hq.out.below B7).2.2 1 _ rfl, (Ha.out.below B7).2.2 0 _ rfl, (Ha.out.below B7).2.2 1 _ rfl, (Hb.out.below B7).2.2 0 _ rfl, (Hb.out.below B7).2.2 1 _ rfl, (Hs.out.below B7).2.2 0 _ rfl, (Hs.out.below B7).2.2 1 _ rfl⟩) (fun hHeld => ?_)
      clear hK KK
      refine wpAnyH_ready (rs := [4]) (by kernel_rfl) (by simp) ?_
      refine AllReadyH.cons rfl (fun KK hK => ?_) AllReadyH.nil
      go_simp
      go_wp2_with (first | (go_at_call 13; refine (SP3.out _).mono ?_; rintro e w8 ⟨rfl, h7⟩; have B8 : Below wv9.heap.size wv9 w8 := B7.trans (h7.mono s7); have s8 := B8.size; clear h7))
      refine hK.out _ _ (⟨(Hp.out.below B8).2.2 0 _ rfl, (Hp.out.below B8).2.2 1 _ rfl, (Hq.out.below B8).2.2 0 _ rfl, (Hq.out.below B8).2.2 1 _ rfl, (Ha.out.below B8).2.2 0 _ rfl, (Ha.out.below B8).2.2 1 _ rfl, (Hb.out.below B8).2.2 0 _ rfl, (Hb.out.below B8).2.2 1 _ rfl, (Hs.out.below B8).2.2 0 _ rfl, (Hs.out.below B8).2.2 1 _ rfl⟩) (fun hHeld => ?_)
      clear hK KK
      refine wpAnyH_take (i := 5) (v := .bool false) rfl (by kernel_rfl) (by kernel_rfl) (by kernel_rfl) (fun _ _ _ h => h) (Or.inl ⟨by kernel_rfl, ?_⟩) hHeld ?_
      · intro w' hSw
        obtain ⟨sp0_, sp1_, sq0_, sq1_, sa0_, sa1_, sb0_, sb1_, ss0_, ss1_⟩ := hSw
        first | (go_simp; done) | (go_simp; with_reducible rfl) | (go_simp; rw [IntKind.wrap_i64]; omega) | (go_simp; omega)
      simp only [Act.put, List.setIfInBounds_toArray, List.set_cons_zero, List.set_cons_succ]
      refine wpAnyH_take (i := 6) (v := .bool false) rfl (by kernel_rfl) (by kernel_rfl) (by kernel_rfl) (fun _ _ _ h => h) (Or.inl ⟨by kernel_rfl, ?_⟩) hHeld ?_
      · intro w' hSw
        obtain ⟨sp0_, sp1_, sq0_, sq1_, sa0_, sa1_, sb0_, sb1_, ss0_, ss1_⟩ := hSw
        first | (go_simp; done) | (go_simp; with_reducible rfl) | (go_simp; rw [IntKind.wrap_i64]; omega) | (go_simp; omega)
      simp only [Act.put, List.setIfInBounds_toArray, List.set_cons_zero, List.set_cons_succ]
      refine wpAnyH_take (i := 7) (v := .pointer (some ⟨gp, 0, none⟩)) rfl (by kernel_rfl) (by kernel_rfl) (by kernel_rfl) (fun _ _ _ h => h) (Or.inl ⟨by kernel_rfl, ?_⟩) hHeld ?_
      · intro w' hSw
        obtain ⟨sp0_, sp1_, sq0_, sq1_, sa0_, sa1_, sb0_, sb1_, ss0_, ss1_⟩ := hSw
        first | (go_simp; done) | (go_simp; with_reducible rfl) | (go_simp; rw [IntKind.wrap_i64]; omega) | (go_simp; omega)
      simp only [Act.put, List.setIfInBounds_toArray, List.set_cons_zero, List.set_cons_succ]
      refine wpAnyH_take (i := 8) (v := .float .f64 r1) rfl (by kernel_rfl) (by kernel_rfl) (by kernel_rfl) (fun _ _ _ h => h) (Or.inl ⟨by kernel_rfl, ?_⟩) hHeld ?_
      · intro w' hSw
        obtain ⟨sp0_, sp1_, sq0_, sq1_, sa0_, sa1_, sb0_, sb1_, ss0_, ss1_⟩ := hSw
        first | (go_simp; done) | (go_simp; with_reducible rfl) | (go_simp; rw [IntKind.wrap_i64]; omega) | (go_simp; omega)
      simp only [Act.put, List.setIfInBounds_toArray, List.set_cons_zero, List.set_cons_succ]
      refine wpAnyH_take (i := 9) (v := .pointer (some ⟨gq, 0, none⟩)) rfl (by kernel_rfl) (by kernel_rfl) (by kernel_rfl) (fun _ _ _ h => h) (Or.inl ⟨by kernel_rfl, ?_⟩) hHeld ?_
      · intro w' hSw
        obtain ⟨sp0_, sp1_, sq0_, sq1_, sa0_, sa1_, sb0_, sb1_, ss0_, ss1_⟩ := hSw
        first | (go_simp; done) | (go_simp; with_reducible rfl) | (go_simp; rw [IntKind.wrap_i64]; omega) | (go_simp; omega)
      simp only [Act.put, List.setIfInBounds_toArray, List.set_cons_zero, List.set_cons_succ]
      refine wpAnyH_take (i := 10) (v := .float .f64 r2) rfl (by kernel_rfl) (by kernel_rfl) (by kernel_rfl) (fun _ _ _ h => h) (Or.inl ⟨by kernel_rfl, ?_⟩) hHeld ?_
      · intro w' hSw
        obtain ⟨sp0_, sp1_, sq0_, sq1_, sa0_, sa1_, sb0_, sb1_, ss0_, ss1_⟩ := hSw
        first | (go_simp; done) | (go_simp; with_reducible rfl) | (go_simp; rw [IntKind.wrap_i64]; omega) | (go_simp; omega)
      simp only [Act.put, List.setIfInBounds_toArray, List.set_cons_zero, List.set_cons_succ]
      refine wpAnyH_take (i := 11) (v := .bool false) rfl (by kernel_rfl) (by kernel_rfl) (by kernel_rfl) (fun _ _ _ h => h) (Or.inl ⟨by kernel_rfl, ?_⟩) hHeld ?_
      · intro w' hSw
        obtain ⟨sp0_, sp1_, sq0_, sq1_, sa0_, sa1_, sb0_, sb1_, ss0_, ss1_⟩ := hSw
        first | (go_simp; done) | (go_simp; with_reducible rfl) | (go_simp; rw [IntKind.wrap_i64]; omega) | (go_simp; omega)
      simp only [Act.put, List.setIfInBounds_toArray, List.set_cons_zero, List.set_cons_succ]
      refine wpAnyH_take (i := 12) (v := .bool false) rfl (by kernel_rfl) (by kernel_rfl) (by kernel_rfl) (fun _ _ _ h => h) (Or.inl ⟨by kernel_rfl, ?_⟩) hHeld ?_
      · intro w' hSw
        obtain ⟨sp0_, sp1_, sq0_, sq1_, sa0_, sa1_, sb0_, sb1_, ss0_, ss1_⟩ := hSw
        first | (go_simp; done) | (go_simp; with_reducible rfl) | (go_simp; rw [IntKind.wrap_i64]; omega) | (go_simp; omega)
      simp only [Act.put, List.setIfInBounds_toArray, List.set_cons_zero, List.set_cons_succ]
      refine wpAnyH_take (i := 13) (v := .pointer (some ⟨gp, 0, none⟩)) rfl (by kernel_rfl) (by kernel_rfl) (by kernel_rfl) (fun _ _ _ h => h) (Or.inl ⟨by kernel_rfl, ?_⟩) hHeld ?_
      · intro w' hSw
        obtain ⟨sp0_, sp1_, sq0_, sq1_, sa0_, sa1_, sb0_, sb1_, ss0_, ss1_⟩ := hSw
        first | (go_simp; done) | (go_simp; with_reducible rfl) | (go_simp; rw [IntKind.wrap_i64]; omega) | (go_simp; omega)
      simp only [Act.put, List.setIfInBounds_toArray, List.set_cons_zero, List.set_cons_succ]
      refine wpAnyH_take (i := 14) (v := .float .f64 r1) rfl (by kernel_rfl) (by kernel_rfl) (by kernel_rfl) (fun _ _ _ h => h) (Or.inl ⟨by kernel_rfl, ?_⟩) hHeld ?_
      · intro w' hSw
        obtain ⟨sp0_, sp1_, sq0_, sq1_, sa0_, sa1_, sb0_, sb1_, ss0_, ss1_⟩ := hSw
        first | (go_simp; done) | (go_simp; with_reducible rfl) | (go_simp; rw [IntKind.wrap_i64]; omega) | (go_simp; omega)
      simp only [Act.put, List.setIfInBounds_toArray, List.set_cons_zero, List.set_cons_succ]
      refine wpAnyH_take (i := 15) (v := .pointer (some ⟨gp, 0, none⟩)) rfl (by kernel_rfl) (by kernel_rfl) (by kernel_rfl) (fun _ _ _ h => h) (Or.inl ⟨by kernel_rfl, ?_⟩) hHeld ?_
      · intro w' hSw
        obtain ⟨sp0_, sp1_, sq0_, sq1_, sa0_, sa1_, sb0_, sb1_, ss0_, ss1_⟩ := hSw
        first | (go_simp; done) | (go_simp; with_reducible rfl) | (go_simp; rw [IntKind.wrap_i64]; omega) | (go_simp; omega)
      simp only [Act.put, List.setIfInBounds_toArray, List.set_cons_zero, List.set_cons_succ]
      refine wpAnyH_take (i := 16) (v := .float .f64 r1) rfl (by kernel_rfl) (by kernel_rfl) (by kernel_rfl) (fun _ _ _ h => h) (Or.inl ⟨by kernel_rfl, ?_⟩) hHeld ?_
      · intro w' hSw
        obtain ⟨sp0_, sp1_, sq0_, sq1_, sa0_, sa1_, sb0_, sb1_, ss0_, ss1_⟩ := hSw
        first | (go_simp; done) | (go_simp; with_reducible rfl) | (go_simp; rw [IntKind.wrap_i64]; omega) | (go_simp; omega)
      simp only [Act.put, List.setIfInBounds_toArray, List.set_cons_zero, List.set_cons_succ]
      refine wpAnyH_take (i := 17) (v := .bool true) rfl (by kernel_rfl) (by kernel_rfl) (by kernel_rfl) (fun _ _ _ h => h) (Or.inl ⟨by kernel_rfl, ?_⟩) hHeld ?_
      · intro w' hSw
        obtain ⟨sp0_, sp1_, sq0_, sq1_, sa0_, sa1_, sb0_, sb1_, ss0_, ss1_⟩ := hSw
        first | (go_simp; done) | (go_simp; with_reducible rfl) | (go_simp; rw [IntKind.wrap_i64]; omega) | (go_simp; omega)
      simp only [Act.put, List.setIfInBounds_toArray, List.set_cons_zero, List.set_cons_succ]
      refine wpAnyH_take (i := 18) (v := .bool true) rfl (by kernel_rfl) (by kernel_rfl) (by kernel_rfl) (fun _ _ _ h => h) (Or.inl ⟨by kernel_rfl, ?_⟩) hHeld ?_
      · intro w' hSw
        obtain ⟨sp0_, sp1_, sq0_, sq1_, sa0_, sa1_, sb0_, sb1_, ss0_, ss1_⟩ := hSw
        first | (go_simp; done) | (go_simp; with_reducible rfl) | (go_simp; rw [IntKind.wrap_i64]; omega) | (go_simp; omega)
      simp only [Act.put, List.setIfInBounds_toArray, List.set_cons_zero, List.set_cons_succ]
      refine wpAnyH_take (i := 19) (v := .bool false) rfl (by kernel_rfl) (by kernel_rfl) (by kernel_rfl) (fun _ _ _ h => h) (Or.inl ⟨by kernel_rfl, ?_⟩) hHeld ?_
      · intro w' hSw
        obtain ⟨sp0_, sp1_, sq0_, sq1_, sa0_, sa1_, sb0_, sb1_, ss0_, ss1_⟩ := hSw
        first | (go_simp; done) | (go_simp; with_reducible rfl) | (go_simp; rw [IntKind.wrap_i64]; omega) | (go_simp; omega)
      simp only [Act.put, List.setIfInBounds_toArray, List.set_cons_zero, List.set_cons_succ]
      refine wpAnyH_take (i := 20) (v := .bool false) rfl (by kernel_rfl) (by kernel_rfl) (by kernel_rfl) (fun _ _ _ h => h) (Or.inl ⟨by kernel_rfl, ?_⟩) hHeld ?_
      · intro w' hSw
        obtain ⟨sp0_, sp1_, sq0_, sq1_, sa0_, sa1_, sb0_, sb1_, ss0_, ss1_⟩ := hSw
        first | (go_simp; done) | (go_simp; with_reducible rfl) | (go_simp; rw [IntKind.wrap_i64]; omega) | (go_simp; omega)
      simp only [Act.put, List.setIfInBounds_toArray, List.set_cons_zero, List.set_cons_succ]
      refine wpAnyH_take (i := 21) (v := .bool false) rfl (by kernel_rfl) (by kernel_rfl) (by kernel_rfl) (fun _ _ _ h => h) (Or.inl ⟨by kernel_rfl, ?_⟩) hHeld ?_
      · intro w' hSw
        obtain ⟨sp0_, sp1_, sq0_, sq1_, sa0_, sa1_, sb0_, sb1_, ss0_, ss1_⟩ := hSw
        first | (go_simp; done) | (go_simp; with_reducible rfl) | (go_simp; rw [IntKind.wrap_i64]; omega) | (go_simp; omega)
      simp only [Act.put, List.setIfInBounds_toArray, List.set_cons_zero, List.set_cons_succ]
      refine wpAnyH_take (i := 22) (v := .pointer (some ⟨gp, 1, none⟩)) rfl (by kernel_rfl) (by kernel_rfl) (by kernel_rfl) (fun _ _ _ h => h) (Or.inl ⟨by kernel_rfl, ?_⟩) hHeld ?_
      · intro w' hSw
        obtain ⟨sp0_, sp1_, sq0_, sq1_, sa0_, sa1_, sb0_, sb1_, ss0_, ss1_⟩ := hSw
        first | (go_simp; done) | (go_simp; with_reducible rfl) | (go_simp; rw [IntKind.wrap_i64]; omega) | (go_simp; omega)
      simp only [Act.put, List.setIfInBounds_toArray, List.set_cons_zero, List.set_cons_succ]
      refine wpAnyH_take (i := 23) (v := .float .f64 i1) rfl (by kernel_rfl) (by kernel_rfl) (by kernel_rfl) (fun _ _ _ h => h) (Or.inl ⟨by kernel_rfl, ?_⟩) hHeld ?_
      · intro w' hSw
        obtain ⟨sp0_, sp1_, sq0_, sq1_, sa0_, sa1_, sb0_, sb1_, ss0_, ss1_⟩ := hSw
        first | (go_simp; done) | (go_simp; with_reducible rfl) | (go_simp; rw [IntKind.wrap_i64]; omega) | (go_simp; omega)
      simp only [Act.put, List.setIfInBounds_toArray, List.set_cons_zero, List.set_cons_succ]
      refine wpAnyH_take (i := 24) (v := .pointer (some ⟨gq, 1, none⟩)) rfl (by kernel_rfl) (by kernel_rfl) (by kernel_rfl) (fun _ _ _ h => h) (Or.inl ⟨by kernel_rfl, ?_⟩) hHeld ?_
      · intro w' hSw
        obtain ⟨sp0_, sp1_, sq0_, sq1_, sa0_, sa1_, sb0_, sb1_, ss0_, ss1_⟩ := hSw
        first | (go_simp; done) | (go_simp; with_reducible rfl) | (go_simp; rw [IntKind.wrap_i64]; omega) | (go_simp; omega)
      simp only [Act.put, List.setIfInBounds_toArray, List.set_cons_zero, List.set_cons_succ]
      refine wpAnyH_take (i := 25) (v := .float .f64 i2) rfl (by kernel_rfl) (by kernel_rfl) (by kernel_rfl) (fun _ _ _ h => h) (Or.inl ⟨by kernel_rfl, ?_⟩) hHeld ?_
      · intro w' hSw
        obtain ⟨sp0_, sp1_, sq0_, sq1_, sa0_, sa1_, sb0_, sb1_, ss0_, ss1_⟩ := hSw
        first | (go_simp; done) | (go_simp; with_reducible rfl) | (go_simp; rw [IntKind.wrap_i64]; omega) | (go_simp; omega)
      simp only [Act.put, List.setIfInBounds_toArray, List.set_cons_zero, List.set_cons_succ]
      refine wpAnyH_take (i := 26) (v := .bool true) rfl (by kernel_rfl) (by kernel_rfl) (by kernel_rfl) (fun _ _ _ h => h) (Or.inl ⟨by kernel_rfl, ?_⟩) hHeld ?_
      · intro w' hSw
        obtain ⟨sp0_, sp1_, sq0_, sq1_, sa0_, sa1_, sb0_, sb1_, ss0_, ss1_⟩ := hSw
        first | (go_simp; done) | (go_simp; with_reducible rfl) | (go_simp; rw [IntKind.wrap_i64]; omega) | (go_simp; omega)
      simp only [Act.put, List.setIfInBounds_toArray, List.set_cons_zero, List.set_cons_succ]
      refine wpAnyH_take (i := 27) (v := .bool true) rfl (by kernel_rfl) (by kernel_rfl) (by kernel_rfl) (fun _ _ _ h => h) (Or.inl ⟨by kernel_rfl, ?_⟩) hHeld ?_
      · intro w' hSw
        obtain ⟨sp0_, sp1_, sq0_, sq1_, sa0_, sa1_, sb0_, sb1_, ss0_, ss1_⟩ := hSw
        first | (go_simp; done) | (go_simp; with_reducible rfl) | (go_simp; rw [IntKind.wrap_i64]; omega) | (go_simp; omega)
      simp only [Act.put, List.setIfInBounds_toArray, List.set_cons_zero, List.set_cons_succ]
      refine wpAnyH_take (i := 28) (v := undef) rfl (by kernel_rfl) (by kernel_rfl) (by kernel_rfl) (fun _ _ _ h => h) (Or.inr ⟨by kernel_rfl, rfl⟩) hHeld ?_
      simp only [Act.put, List.setIfInBounds_toArray, List.set_cons_zero, List.set_cons_succ]
      refine wpAnyH_take (i := 29) (v := undef) rfl (by kernel_rfl) (by kernel_rfl) (by kernel_rfl) (fun _ _ _ h => h) (Or.inr ⟨by kernel_rfl, rfl⟩) hHeld ?_
      simp only [Act.put, List.setIfInBounds_toArray, List.set_cons_zero, List.set_cons_succ]
      refine wpAnyH_take (i := 30) (v := undef) rfl (by kernel_rfl) (by kernel_rfl) (by kernel_rfl) (fun _ _ _ h => h) (Or.inr ⟨by kernel_rfl, rfl⟩) hHeld ?_
      simp only [Act.put, List.setIfInBounds_toArray, List.set_cons_zero, List.set_cons_succ]
      refine wpAnyH_take (i := 31) (v := undef) rfl (by kernel_rfl) (by kernel_rfl) (by kernel_rfl) (fun _ _ _ h => h) (Or.inr ⟨by kernel_rfl, rfl⟩) hHeld ?_
      simp only [Act.put, List.setIfInBounds_toArray, List.set_cons_zero, List.set_cons_succ]
      refine wpAnyH_take (i := 32) (v := undef) rfl (by kernel_rfl) (by kernel_rfl) (by kernel_rfl) (fun _ _ _ h => h) (Or.inr ⟨by kernel_rfl, rfl⟩) hHeld ?_
      simp only [Act.put, List.setIfInBounds_toArray, List.set_cons_zero, List.set_cons_succ]
      refine wpAnyH_take (i := 33) (v := .bool true) rfl (by kernel_rfl) (by kernel_rfl) (by kernel_rfl) (fun _ _ _ h => h) (Or.inl ⟨by kernel_rfl, ?_⟩) hHeld ?_
      · intro w' hSw
        obtain ⟨sp0_, sp1_, sq0_, sq1_, sa0_, sa1_, sb0_, sb1_, ss0_, ss1_⟩ := hSw
        first | (go_simp; done) | (go_simp; with_reducible rfl) | (go_simp; rw [IntKind.wrap_i64]; omega) | (go_simp; omega)
      simp only [Act.put, List.setIfInBounds_toArray, List.set_cons_zero, List.set_cons_succ]
      refine wpAnyH_take (i := 34) (v := .bool false) rfl (by kernel_rfl) (by kernel_rfl) (by kernel_rfl) (fun _ _ _ h => h) (Or.inl ⟨by kernel_rfl, ?_⟩) hHeld ?_
      · intro w' hSw
        obtain ⟨sp0_, sp1_, sq0_, sq1_, sa0_, sa1_, sb0_, sb1_, ss0_, ss1_⟩ := hSw
        first | (go_simp; done) | (go_simp; with_reducible rfl) | (go_simp; rw [IntKind.wrap_i64]; omega) | (go_simp; omega)
      simp only [Act.put, List.setIfInBounds_toArray, List.set_cons_zero, List.set_cons_succ]
      refine wpAnyH_take (i := 35) (v := .bool false) rfl (by kernel_rfl) (by kernel_rfl) (by kernel_rfl) (fun _ _ _ h => h) (Or.inl ⟨by kernel_rfl, ?_⟩) hHeld ?_
      · intro w' hSw
        obtain ⟨sp0_, sp1_, sq0_, sq1_, sa0_, sa1_, sb0_, sb1_, ss0_, ss1_⟩ := hSw
        first | (go_simp; done) | (go_simp; with_reducible rfl) | (go_simp; rw [IntKind.wrap_i64]; omega) | (go_simp; omega)
      simp only [Act.put, List.setIfInBounds_toArray, List.set_cons_zero, List.set_cons_succ]
      refine wpAnyH_take (i := 36) (v := .bool false) rfl (by kernel_rfl) (by kernel_rfl) (by kernel_rfl) (fun _ _ _ h => h) (Or.inl ⟨by kernel_rfl, ?_⟩) hHeld ?_
      · intro w' hSw
        obtain ⟨sp0_, sp1_, sq0_, sq1_, sa0_, sa1_, sb0_, sb1_, ss0_, ss1_⟩ := hSw
        first | (go_simp; done) | (go_simp; with_reducible rfl) | (go_simp; rw [IntKind.wrap_i64]; omega) | (go_simp; omega)
      simp only [Act.put, List.setIfInBounds_toArray, List.set_cons_zero, List.set_cons_succ]
      refine wpAnyH_take (i := 37) (v := .agg #[.float .f64 r5, .float .f64 i5]) rfl (by kernel_rfl) (by kernel_rfl) (by kernel_rfl) (fun _ _ _ h => h) (Or.inl ⟨by kernel_rfl, ?_⟩) hHeld ?_
      · intro w' hSw
        obtain ⟨sp0_, sp1_, sq0_, sq1_, sa0_, sa1_, sb0_, sb1_, ss0_, ss1_⟩ := hSw
        first | (go_simp; done) | (go_simp; with_reducible rfl) | (go_simp; rw [IntKind.wrap_i64]; omega) | (go_simp; omega)
      simp only [Act.put, List.setIfInBounds_toArray, List.set_cons_zero, List.set_cons_succ]
      refine wpAnyH_take (i := 38) (v := .agg #[.float .f64 z, .float .f64 u]) rfl (by kernel_rfl) (by kernel_rfl) (by kernel_rfl) (fun _ _ _ h => h) (Or.inl ⟨by kernel_rfl, ?_⟩) hHeld ?_
      · intro w' hSw
        obtain ⟨sp0_, sp1_, sq0_, sq1_, sa0_, sa1_, sb0_, sb1_, ss0_, ss1_⟩ := hSw
        first | (go_simp; done) | (go_simp; with_reducible rfl) | (go_simp; rw [IntKind.wrap_i64]; omega) | (go_simp; omega)
      simp only [Act.put, List.setIfInBounds_toArray, List.set_cons_zero, List.set_cons_succ]
      refine wpAnyH_take (i := 39) (v := .agg #[.float .f64 x, .float .f64 y]) rfl (by kernel_rfl) (by kernel_rfl) (by kernel_rfl) (fun _ _ _ h => h) (Or.inl ⟨by kernel_rfl, ?_⟩) hHeld ?_
      · intro w' hSw
        obtain ⟨sp0_, sp1_, sq0_, sq1_, sa0_, sa1_, sb0_, sb1_, ss0_, ss1_⟩ := hSw
        first | (go_simp; done) | (go_simp; with_reducible rfl) | (go_simp; rw [IntKind.wrap_i64]; omega) | (go_simp; omega)
      simp only [Act.put, List.setIfInBounds_toArray, List.set_cons_zero, List.set_cons_succ]
      refine wpAnyH_ready (rs := [40]) (by kernel_rfl) (by simp) ?_
      refine AllReadyH.cons rfl (fun KK hK => ?_) AllReadyH.nil
      go_simp
      go_wp2_with (first | (go_at_call 12; refine (implAddPair_any fc.out fd.out fa.out fb.out _).mono ?_; rintro e w9 ⟨r6, i6, rfl, f6_, g6_, h7⟩; have f6 : Hid (Fl r6 (opO .add a c_)) := (by show Fl _ _; rw [oadd_comm]; exact f6_); have g6 : Hid (Fl i6 (opO .add b d)) := (by show Fl _ _; rw [oadd_comm]; exact g6_); have SP6 : Hid (∀ w, Calls Try.prog 13 #[.agg #[.float .f64 r5, .float .f64 i5], .agg #[.float .f64 r6, .float .f64 i6]] w fun e w' => e = .returned (.bool true) ∧ Below w.heap.size w w') := fun w => (by have q := implSamePair_any r5 i5 r6 i6 f5.out.1 g5.out.1 f6.out.1 g6.out.1 w; rw [fl_same f5.out f6.out, fl_same g5.out g6.out] at q; exact q); have B9 : Below wv9.heap.size wv9 w9 := B8.trans (h7.mono s8); have s9 := B9.size; clear h7 f6_ g6_))
      refine hK.out _ _ (⟨(Hp.out.below B9).2.2 0 _ rfl, (Hp.out.below B9).2.2 1 _ rfl, (Hq.out.below B9).2.2 0 _ rfl, (Hq.out.below B9).2.2 1 _ rfl, (Ha.out.below B9).2.2 0 _ rfl, (Ha.out.below B9).2.2 1 _ rfl, (Hb.out.below B9).2.2 0 _ rfl, (Hb.out.below B9).2.2 1 _ rfl, (Hs.out.below B9).2.2 0 _ rfl, (Hs.out.below B9).2.2 1 _ rfl⟩) (fun hHeld => ?_)
      clear hK KK
      refine wpAnyH_ready (rs := [41]) (by kernel_rfl) (by simp) ?_
      refine AllReadyH.cons rfl (fun KK hK => ?_) AllReadyH.nil
      go_simp
      go_wp2_with (first | (go_at_call 13; refine (SP6.out _).mono ?_; rintro e w10 ⟨rfl, h7⟩; have B10 : Below wv9.heap.size wv9 w10 := B9.trans (h7.mono s9); have s10 := B10.size; clear h7))
      refine hK.out _ _ (⟨(Hp.out.below B10).2.2 0 _ rfl, (Hp.out.below B10).2.2 1 _ rfl, (Hq.out.below B10).2.2 0 _ rfl, (Hq.out.below B10).2.2 1 _ rfl, (Ha.out.below B10).2.2 0 _ rfl, (Ha.out.below B10).2.2 1 _ rfl, (Hb.out.below B10).2.2 0 _ rfl, (Hb.out.below B10).2.2 1 _ rfl, (Hs.out.below B10).2.2 0 _ rfl, (Hs.out.below B10).2.2 1 _ rfl⟩) (fun hHeld => ?_)
      clear hK KK
      refine wpAnyH_take (i := 42) (v := .bool false) rfl (by kernel_rfl) (by kernel_rfl) (by kernel_rfl) (fun _ _ _ h => h) (Or.inl ⟨by kernel_rfl, ?_⟩) hHeld ?_
      · intro w' hSw
        obtain ⟨sp0_, sp1_, sq0_, sq1_, sa0_, sa1_, sb0_, sb1_, ss0_, ss1_⟩ := hSw
        first | (go_simp; done) | (go_simp; with_reducible rfl) | (go_simp; rw [IntKind.wrap_i64]; omega) | (go_simp; omega)
      simp only [Act.put, List.setIfInBounds_toArray, List.set_cons_zero, List.set_cons_succ]
      refine wpAnyH_ready (rs := [43]) (by kernel_rfl) (by simp) ?_
      refine AllReadyH.cons rfl (fun KK hK => ?_) AllReadyH.nil
      go_simp
      refine hK.out _ _ hHeld (fun hHeld => ?_)
      clear hK KK
      refine wpAnyH_done (by kernel_rfl) ?_ _
      have bl_ := B10
      clear hHeld B7 B8 B9 s7 s8 s9 s10 f3 g3 f6 g6 SP3 SP6
      replace Ha : Hid (Blk w10 ga [.float .f64 x, .float .f64 y]) := Ha.out.below bl_
      replace Hb : Hid (Blk w10 gb [.float .f64 z, .float .f64 u]) := Hb.out.below bl_
      replace Hp : Hid (Blk w10 gp [.float .f64 r1, .float .f64 i1]) := Hp.out.below bl_
      replace Hq : Hid (Blk w10 gq [.float .f64 r2, .float .f64 i2]) := Hq.out.below bl_
      replace Hs : Hid (Blk w10 gs [.float .f64 r5, .float .f64 i5]) := Hs.out.below bl_
      replace HB : Hid (Below w1.heap.size w1 w10) := HB.out.trans (bl_.mono HB.out.size)
      clear bl_ B10
      clear Hp
      clear Hq
      clear Hs
      have KX : Hid (∀ w : World, Calls Try.prog 15 #[.float .f64 x] w fun e w' => e = .returned (.bool (knownB x)) ∧ ∃ n, w' = w.drewN n) := fun w => specKnown_any x w
      have KY : Hid (∀ w : World, Calls Try.prog 15 #[.float .f64 y] w fun e w' => e = .returned (.bool (knownB y)) ∧ ∃ n, w' = w.drewN n) := fun w => specKnown_any y w
      obtain ⟨z_a, f_a, c_a⟩ := Ha.out
      have ac0 : w10.cell? ⟨ga, 0, none⟩ = some (.float .f64 x) := c_a 0 _ rfl
      have ac1 : w10.cell? ⟨ga, 1, none⟩ = some (.float .f64 y) := c_a 1 _ rfl
      clear f_a c_a
      go_wp2_with fail
      refine (KX.out _).mono ?_
      rintro e wv10 ⟨rfl, q_, hw⟩
      have h_ : Below w10.heap.size w10 wv10 := by rw [hw]; exact (by repeat (first | with_reducible exact Below.refl _ _ | with_reducible refine Below.setCell ?_ (by first | omega | (simp; done) | (simp; omega)) _ | with_reducible refine bDrewN ?_ _ | with_reducible refine Below.drew ?_ | with_reducible refine Below.alloc ?_ (by first | omega | (simp; done) | (simp; omega)) _))
      clear hw
      replace Ha : Hid (Blk wv10 ga [.float .f64 x, .float .f64 y]) := Ha.out.below h_
      replace Hb : Hid (Blk wv10 gb [.float .f64 z, .float .f64 u]) := Hb.out.below h_
      replace HB : Hid (Below w1.heap.size w1 wv10) := HB.out.trans (h_.mono HB.out.size)
      clear h_
      clear ac0 ac1 z_a
      cases kx : knownB x
      case false =>
        have BF := HB.out
        have sBF := BF.size
        go_wp2
        go_ret
        exact ⟨rfl, (by repeat (first | with_reducible exact Below.refl _ _ | with_reducible exact BF | with_reducible refine Below.setCell ?_ (by first | omega | (simp; done) | (simp; omega)) _ | with_reducible refine bDrewN ?_ _ | with_reducible refine Below.drew ?_ | with_reducible refine Below.alloc ?_ (by first | omega | (simp; done) | (simp; omega)) _))⟩
      case true =>
        obtain ⟨z_a, f_a, c_a⟩ := Ha.out
        have ac0 : wv10.cell? ⟨ga, 0, none⟩ = some (.float .f64 x) := c_a 0 _ rfl
        have ac1 : wv10.cell? ⟨ga, 1, none⟩ = some (.float .f64 y) := c_a 1 _ rfl
        clear f_a c_a
        go_wp2_with fail
        refine (KY.out _).mono ?_
        rintro e wv11 ⟨rfl, q_, hw⟩
        have h_ : Below wv10.heap.size wv10 wv11 := by rw [hw]; exact (by repeat (first | with_reducible exact Below.refl _ _ | with_reducible refine Below.setCell ?_ (by first | omega | (simp; done) | (simp; omega)) _ | with_reducible refine bDrewN ?_ _ | with_reducible refine Below.drew ?_ | with_reducible refine Below.alloc ?_ (by first | omega | (simp; done) | (simp; omega)) _))
        clear hw
        replace Ha : Hid (Blk wv11 ga [.float .f64 x, .float .f64 y]) := Ha.out.below h_
        replace Hb : Hid (Blk wv11 gb [.float .f64 z, .float .f64 u]) := Hb.out.below h_
        replace HB : Hid (Below w1.heap.size w1 wv11) := HB.out.trans (h_.mono HB.out.size)
        clear h_
        clear ac0 ac1 z_a
        cases ky : knownB y
        case false =>
          have BF := HB.out
          have sBF := BF.size
          go_wp2
          go_ret
          exact ⟨rfl, (by repeat (first | with_reducible exact Below.refl _ _ | with_reducible exact BF | with_reducible refine Below.setCell ?_ (by first | omega | (simp; done) | (simp; omega)) _ | with_reducible refine bDrewN ?_ _ | with_reducible refine Below.drew ?_ | with_reducible refine Below.alloc ?_ (by first | omega | (simp; done) | (simp; omega)) _))⟩
        case true =>
          have hx0 : rg x < INF := of_decide_eq_true kx
          have hy0 : rg y < INF := of_decide_eq_true ky
          clear kx ky
          have FX : Hid (Fl x (some x)) := ⟨lx, .inl ⟨Nat.le_of_lt hx0, rfl⟩⟩
          have FY : Hid (Fl y (some y)) := ⟨ly, .inl ⟨Nat.le_of_lt hy0, rfl⟩⟩
          obtain ⟨z_a, f_a, c_a⟩ := Ha.out
          have ac0 : wv11.cell? ⟨ga, 0, none⟩ = some (.float .f64 x) := c_a 0 _ rfl
          have ac1 : wv11.cell? ⟨ga, 1, none⟩ = some (.float .f64 y) := c_a 1 _ rfl
          clear f_a c_a
          go_wp2_with fail
          refine (implSubPair_any FX.out FY.out FX.out FY.out _).mono ?_
          rintro e wv12 ⟨r7, i7, rfl, f7, g7, h_⟩
          replace Ha : Hid (Blk wv12 ga [.float .f64 x, .float .f64 y]) := Ha.out.below h_
          replace Hb : Hid (Blk wv12 gb [.float .f64 z, .float .f64 u]) := Hb.out.below h_
          replace HB : Hid (Below w1.heap.size w1 wv12) := HB.out.trans (h_.mono HB.out.size)
          clear h_
          clear ac0 ac1 z_a
          rw [sub_self_o hx0] at f7
          rw [sub_self_o hy0] at g7
          obtain rfl : r7 = 0 := fl_val f7
          obtain rfl : i7 = 0 := fl_val g7
          clear f7 g7
          go_upto_region 12 with fail
          obtain ⟨wv13, hw_⟩ : ∃ x_, x_ = wv12.alloc (.cells #[.float .f64 0, .float .f64 0] 26) := ⟨_, rfl⟩
          rw [← hw_]
          have Hd : Hid (Blk wv13 wv12.heap.size [.float .f64 0, .float .f64 0]) := by show Blk _ _ _; rw [hw_]; exact Blk.new wv12 #[.float .f64 0, .float .f64 0] _
          have bl_ : Below wv12.heap.size wv12 wv13 := by rw [hw_]; exact below0 _ _
          clear hw_
          replace Ha : Hid (Blk wv13 ga [.float .f64 x, .float .f64 y]) := Ha.out.below bl_
          replace Hb : Hid (Blk wv13 gb [.float .f64 z, .float .f64 u]) := Hb.out.below bl_
          replace HB : Hid (Below w1.heap.size w1 wv13) := HB.out.trans (bl_.mono HB.out.size)
          obtain ⟨gd, hg_⟩ : ∃ g, g = wv12.heap.size := ⟨_, rfl⟩
          rw [← hg_] at Hd ⊢
          clear hg_ bl_
          obtain ⟨z_a, f_a, c_a⟩ := Ha.out
          have ac0 : wv13.cell? ⟨ga, 0, none⟩ = some (.float .f64 x) := c_a 0 _ rfl
          have ac1 : wv13.cell? ⟨ga, 1, none⟩ = some (.float .f64 y) := c_a 1 _ rfl
          clear f_a c_a
          go_wp2_with fail
          refine (implPower_any FX.out FY.out FX.out FY.out _).mono ?_
          rintro e wv14 ⟨r8, i8, rfl, f8, g8, h_⟩
          replace Ha : Hid (Blk wv14 ga [.float .f64 x, .float .f64 y]) := Ha.out.below h_
          replace Hb : Hid (Blk wv14 gb [.float .f64 z, .float .f64 u]) := Hb.out.below h_
          replace Hd : Hid (Blk wv14 gd [.float .f64 0, .float .f64 0]) := Hd.out.below h_
          replace HB : Hid (Below w1.heap.size w1 wv14) := HB.out.trans (h_.mono HB.out.size)
          clear h_
          clear ac0 ac1 z_a
          go_upto_region 13 with fail
          obtain ⟨wv15, hw_⟩ : ∃ x_, x_ = wv14.alloc (.cells #[.float .f64 r8, .float .f64 i8] 26) := ⟨_, rfl⟩
          rw [← hw_]
          have Hw : Hid (Blk wv15 wv14.heap.size [.float .f64 r8, .float .f64 i8]) := by show Blk _ _ _; rw [hw_]; exact Blk.new wv14 #[.float .f64 r8, .float .f64 i8] _
          have bl_ : Below wv14.heap.size wv14 wv15 := by rw [hw_]; exact below0 _ _
          clear hw_
          replace Ha : Hid (Blk wv15 ga [.float .f64 x, .float .f64 y]) := Ha.out.below bl_
          replace Hb : Hid (Blk wv15 gb [.float .f64 z, .float .f64 u]) := Hb.out.below bl_
          replace Hd : Hid (Blk wv15 gd [.float .f64 0, .float .f64 0]) := Hd.out.below bl_
          replace HB : Hid (Below w1.heap.size w1 wv15) := HB.out.trans (bl_.mono HB.out.size)
          obtain ⟨gw, hg_⟩ : ∃ g, g = wv14.heap.size := ⟨_, rfl⟩
          rw [← hg_] at Hw ⊢
          clear hg_ bl_
          have z0 : (FloatKind.f64.format.order 0 0 != some .eq) = false := by decide
          have HK : Hid (knownB r8 = true → (FloatKind.f64.format.order i8 0 == some .eq) = true) := power_known (power_self lx ly hx0 hy0) f8 g8
          clear f8 g8
          have KR : Hid (∀ w : World, Calls Try.prog 15 #[.float .f64 r8] w fun e w' => e = .returned (.bool (knownB r8)) ∧ ∃ n, w' = w.drewN n) := fun w => specKnown_any r8 w
          obtain ⟨z_d, f_d, c_d⟩ := Hd.out
          have dc0 : wv15.cell? ⟨gd, 0, none⟩ = some (.float .f64 0) := c_d 0 _ rfl
          have dc1 : wv15.cell? ⟨gd, 1, none⟩ = some (.float .f64 0) := c_d 1 _ rfl
          clear f_d c_d
          obtain ⟨z_w, f_w, c_w⟩ := Hw.out
          have wc0 : wv15.cell? ⟨gw, 0, none⟩ = some (.float .f64 r8) := c_w 0 _ rfl
          have wc1 : wv15.cell? ⟨gw, 1, none⟩ = some (.float .f64 i8) := c_w 1 _ rfl
          clear f_w c_w
          go_wp2_with fail
          refine (KR.out _).mono ?_
          rintro e wv16 ⟨rfl, q_, hw⟩
          have h_ : Below wv15.heap.size wv15 wv16 := by rw [hw]; exact (by repeat (first | with_reducible exact Below.refl _ _ | with_reducible refine Below.setCell ?_ (by first | omega | (simp; done) | (simp; omega)) _ | with_reducible refine bDrewN ?_ _ | with_reducible refine Below.drew ?_ | with_reducible refine Below.alloc ?_ (by first | omega | (simp; done) | (simp; omega)) _))
          clear hw
          replace Ha : Hid (Blk wv16 ga [.float .f64 x, .float .f64 y]) := Ha.out.below h_
          replace Hb : Hid (Blk wv16 gb [.float .f64 z, .float .f64 u]) := Hb.out.below h_
          replace Hd : Hid (Blk wv16 gd [.float .f64 0, .float .f64 0]) := Hd.out.below h_
          replace Hw : Hid (Blk wv16 gw [.float .f64 r8, .float .f64 i8]) := Hw.out.below h_
          replace HB : Hid (Below w1.heap.size w1 wv16) := HB.out.trans (h_.mono HB.out.size)
          clear h_
          clear dc0 dc1 z_d
          clear wc0 wc1 z_w
          cases kr : knownB r8
          case false =>
            obtain ⟨z_w, f_w, c_w⟩ := Hw.out
            have wc0 : wv16.cell? ⟨gw, 0, none⟩ = some (.float .f64 r8) := c_w 0 _ rfl
            have wc1 : wv16.cell? ⟨gw, 1, none⟩ = some (.float .f64 i8) := c_w 1 _ rfl
            clear f_w c_w
            have BF := HB.out
            have sBF := BF.size
            go_wp2
            go_ret
            exact ⟨rfl, (by repeat (first | with_reducible exact Below.refl _ _ | with_reducible exact BF | with_reducible refine Below.setCell ?_ (by first | omega | (simp; done) | (simp; omega)) _ | with_reducible refine bDrewN ?_ _ | with_reducible refine Below.drew ?_ | with_reducible refine Below.alloc ?_ (by first | omega | (simp; done) | (simp; omega)) _))⟩
          case true =>
            have hi := HK.out kr
            obtain ⟨z_w, f_w, c_w⟩ := Hw.out
            have wc0 : wv16.cell? ⟨gw, 0, none⟩ = some (.float .f64 r8) := c_w 0 _ rfl
            have wc1 : wv16.cell? ⟨gw, 1, none⟩ = some (.float .f64 i8) := c_w 1 _ rfl
            clear f_w c_w
            have BF := HB.out
            have sBF := BF.size
            go_wp2
            go_ret
            exact ⟨rfl, (by repeat (first | with_reducible exact Below.refl _ _ | with_reducible exact BF | with_reducible refine Below.setCell ?_ (by first | omega | (simp; done) | (simp; omega)) _ | with_reducible refine bDrewN ?_ _ | with_reducible refine Below.drew ?_ | with_reducible refine Below.alloc ?_ (by first | omega | (simp; done) | (simp; omega)) _))⟩
    · skip
      refine wp_region_held_drew (S := fun w' => w'.cell? ⟨gp, 0, none⟩ = some (.float .f64 r1) ∧ w'.cell? ⟨gp, 1, none⟩ = some (.float .f64 i1) ∧ w'.cell? ⟨gq, 0, none⟩ = some (.float .f64 r2) ∧ w'.cell? ⟨gq, 1, none⟩ = some (.float .f64 i2) ∧ w'.cell? ⟨ga, 0, none⟩ = some (.float .f64 x) ∧ w'.cell? ⟨ga, 1, none⟩ = some (.float .f64 y) ∧ w'.cell? ⟨gb, 0, none⟩ = some (.float .f64 z) ∧ w'.cell? ⟨gb, 1, none⟩ = some (.float .f64 u) ∧ w'.cell? ⟨gs, 0, none⟩ = some (.float .f64 r5) ∧ w'.cell? ⟨gs, 1, none⟩ = some (.float .f64 i5)) (by kernel_rfl) ?_ (fun hHeld => ?_)
      · exact ⟨(Hp.out.below (show Below wv9.heap.size wv9 _ from (by repeat (first | with_reducible exact Below.refl _ _ | with_reducible refine Below.setCell ?_ (by first | omega | (simp; done) | (simp; omega)) _ | with_reducible refine bDrewN ?_ _ | with_reducible refine Below.drew ?_ | with_reducible refine Below.alloc ?_ (by first | omega | (simp; done) | (simp; omega)) _)))).2.2 0 _ rfl, (Hp.out.below (show Below wv9.heap.size wv9 _ from (by repeat (first | with_reducible exact Below.refl _ _ | with_reducible refine Below.setCell ?_ (by first | omega | (simp; done) | (simp; omega)) _ | with_reducible refine bDrewN ?_ _ | with_reducible refine Below.drew ?_ | with_reducible refine Below.alloc ?_ (by first | omega | (simp; done) | (simp; omega)) _)))).2.2 1 _ rfl, (Hq.out.below (show Below wv9.heap.size wv9 _ from (by repeat (first | with_reducible exact Below.refl _ _ | with_reducible refine Below.setCell ?_ (by first | omega | (simp; done) | (simp; omega)) _ | with_reducible refine bDrewN ?_ _ | with_reducible refine Below.drew ?_ | with_reducible refine Below.alloc ?_ (by first | omega | (simp; done) | (simp; omega)) _)))).2.2 0 _ rfl, (Hq.out.below (show Below wv9.heap.size wv9 _ from (by repeat (first | with_reducible exact Below.refl _ _ | with_reducible refine Below.setCell ?_ (by first | omega | (simp; done) | (simp; omega)) _ | with_reducible refine bDrewN ?_ _ | with_reducible refine Below.drew ?_ | with_reducible refine Below.alloc ?_ (by first | omega | (simp; done) | (simp; omega)) _)))).2.2 1 _ rfl, (Ha.out.below (show Below wv9.heap.size wv9 _ from (by repeat (first | with_reducible exact Below.refl _ _ | with_reducible refine Below.setCell ?_ (by first | omega | (simp; done) | (simp; omega)) _ | with_reducible refine bDrewN ?_ _ | with_reducible refine Below.drew ?_ | with_reducible refine Below.alloc ?_ (by first | omega | (simp; done) | (simp; omega)) _)))).2.2 0 _ rfl, (Ha.out.below (show Below wv9.heap.size wv9 _ from (by repeat (first | with_reducible exact Below.refl _ _ | with_reducible refine Below.setCell ?_ (by first | omega | (simp; done) | (simp; omega)) _ | with_reducible refine bDrewN ?_ _ | with_reducible refine Below.drew ?_ | with_reducible refine Below.alloc ?_ (by first | omega | (simp; done) | (simp; omega)) _)))).2.2 1 _ rfl, (Hb.out.below (show Below wv9.heap.size wv9 _ from (by repeat (first | with_reducible exact Below.refl _ _ | with_reducible refine Below.setCell ?_ (by first | omega | (simp; done) | (simp; omega)) _ | with_reducible refine bDrewN ?_ _ | with_reducible refine Below.drew ?_ | with_reducible refine Below.alloc ?_ (by first | omega | (simp; done) | (simp; omega)) _)))).2.2 0 _ rfl, (Hb.out.below (show Below wv9.heap.size wv9 _ from (by repeat (first | with_reducible exact Below.refl _ _ | with_reducible refine Below.setCell ?_ (by first | omega | (simp; done) | (simp; omega)) _ | with_reducible refine bDrewN ?_ _ | with_reducible refine Below.drew ?_ | with_reducible refine Below.alloc ?_ (by first | omega | (simp; done) | (simp; omega)) _)))).2.2 1 _ rfl, (Hs.out.below (show Below wv9.heap.size wv9 _ from (by repeat (first | with_reducible exact Below.refl _ _ | with_reducible refine Below.setCell ?_ (by first | omega | (simp; done) | (simp; omega)) _ | with_reducible refine bDrewN ?_ _ | with_reducible refine Below.drew ?_ | with_reducible refine Below.alloc ?_ (by first | omega | (simp; done) | (simp; omega)) _)))).2.2 0 _ rfl, (Hs.out.below (show Below wv9.heap.size wv9 _ from (by repeat (first | with_reducible exact Below.refl _ _ | with_reducible refine Below.setCell ?_ (by first | omega | (simp; done) | (simp; omega)) _ | with_reducible refine bDrewN ?_ _ | with_reducible refine Below.drew ?_ | with_reducible refine Below.alloc ?_ (by first | omega | (simp; done) | (simp; omega)) _)))).2.2 1 _ rfl⟩
      refine wpAnyH_take (i := 0) (v := .agg #[.float .f64 r1, .float .f64 i1]) rfl (by kernel_rfl) (by kernel_rfl) (by kernel_rfl) (fun _ _ _ h => h) (Or.inl ⟨by kernel_rfl, ?_⟩) hHeld ?_
      · intro w' hSw
        obtain ⟨sp0_, sp1_, sq0_, sq1_, sa0_, sa1_, sb0_, sb1_, ss0_, ss1_⟩ := hSw
        first | (go_simp; done) | (go_simp; with_reducible rfl) | (go_simp; rw [IntKind.wrap_i64]; omega) | (go_simp; omega)
      simp only [Act.put, List.setIfInBounds_toArray, List.set_cons_zero, List.set_cons_succ]
      refine wpAnyH_take (i := 1) (v := .agg #[.float .f64 x, .float .f64 y]) rfl (by kernel_rfl) (by kernel_rfl) (by kernel_rfl) (fun _ _ _ h => h) (Or.inl ⟨by kernel_rfl, ?_⟩) hHeld ?_
      · intro w' hSw
        obtain ⟨sp0_, sp1_, sq0_, sq1_, sa0_, sa1_, sb0_, sb1_, ss0_, ss1_⟩ := hSw
        first | (go_simp; done) | (go_simp; with_reducible rfl) | (go_simp; rw [IntKind.wrap_i64]; omega) | (go_simp; omega)
      simp only [Act.put, List.setIfInBounds_toArray, List.set_cons_zero, List.set_cons_succ]
      refine wpAnyH_take (i := 2) (v := .agg #[.float .f64 z, .float .f64 u]) rfl (by kernel_rfl) (by kernel_rfl) (by kernel_rfl) (fun _ _ _ h => h) (Or.inl ⟨by kernel_rfl, ?_⟩) hHeld ?_
      · intro w' hSw
        obtain ⟨sp0_, sp1_, sq0_, sq1_, sa0_, sa1_, sb0_, sb1_, ss0_, ss1_⟩ := hSw
        first | (go_simp; done) | (go_simp; with_reducible rfl) | (go_simp; rw [IntKind.wrap_i64]; omega) | (go_simp; omega)
      simp only [Act.put, List.setIfInBounds_toArray, List.set_cons_zero, List.set_cons_succ]
      refine wpAnyH_ready (rs := [3]) (by kernel_rfl) (by simp) ?_
      refine AllReadyH.cons rfl (fun KK hK => ?_) AllReadyH.nil
      go_simp
      go_wp2_with (first | (go_at_call 14; refine (specMulPair_any fa.out fb.out fc.out fd.out _).mono ?_; rintro e w7 ⟨r3, i3, rfl, f3_, g3_, h7⟩; have f3 : Hid (Fl r3 (mulRe a b c_ d)) := f3_; have g3 : Hid (Fl i3 (mulIm a b c_ d)) := g3_; have SP3 : Hid (∀ w, Calls Try.prog 13 #[.agg #[.float .f64 r1, .float .f64 i1], .agg #[.float .f64 r3, .float .f64 i3]] w fun e w' => e = .returned (.bool true) ∧ Below w.heap.size w w') := fun w => (by have q := implSamePair_any r1 i1 r3 i3 f1.out.1 g1.out.1 f3.out.1 g3.out.1 w; rw [fl_same f1.out f3.out, fl_same g1.out g3.out] at q; exact q); have B7 : Below wv9.heap.size wv9 w7 := (show Below wv9.heap.size wv9 _ from (by repeat (first | with_reducible exact Below.refl _ _ | with_reducible refine Below.setCell ?_ (by first | omega | (simp; done) | (simp; omega)) _ | with_reducible refine bDrewN ?_ _ | with_reducible refine Below.drew ?_ | with_reducible refine Below.alloc ?_ (by first | omega | (simp; done) | (simp; omega)) _))).trans (h7.mono (by first | omega | (simp; done) | (simp; omega))); have s7 := B7.size; clear h7 f3_ g3_))
      refine hK.out _ _ (⟨(Hp.out.below B7).2.2 0 _ rfl, (Hp.out.below B7).2.2 1 _ rfl, (Hq.out.below B7).2.2 0 _ rfl, (Hq.out.below B7).2.2 1 _ rfl, (Ha.out.below B7).2.2 0 _ rfl, (Ha.out.below B7).2.2 1 _ rfl, (Hb.out.below B7).2.2 0 _ rfl, (Hb.out.below B7).2.2 1 _ rfl, (Hs.out.below B7).2.2 0 _ rfl, (Hs.out.below B7).2.2 1 _ rfl⟩) (fun hHeld => ?_)
      clear hK KK
      refine wpAnyH_ready (rs := [4]) (by kernel_rfl) (by simp) ?_
      refine AllReadyH.cons rfl (fun KK hK => ?_) AllReadyH.nil
      go_simp
      go_wp2_with (first | (go_at_call 13; refine (SP3.out _).mono ?_; rintro e w8 ⟨rfl, h7⟩; have B8 : Below wv9.heap.size wv9 w8 := B7.trans (h7.mono s7); have s8 := B8.size; clear h7))
      refine hK.out _ _ (⟨(Hp.out.below B8).2.2 0 _ rfl, (Hp.out.below B8).2.2 1 _ rfl, (Hq.out.below B8).2.2 0 _ rfl, (Hq.out.below B8).2.2 1 _ rfl, (Ha.out.below B8).2.2 0 _ rfl, (Ha.out.below B8).2.2 1 _ rfl, (Hb.out.below B8).2.2 0 _ rfl, (Hb.out.below B8).2.2 1 _ rfl, (Hs.out.below B8).2.2 0 _ rfl, (Hs.out.below B8).2.2 1 _ rfl⟩) (fun hHeld => ?_)
      clear hK KK
      refine wpAnyH_take (i := 5) (v := .bool false) rfl (by kernel_rfl) (by kernel_rfl) (by kernel_rfl) (fun _ _ _ h => h) (Or.inl ⟨by kernel_rfl, ?_⟩) hHeld ?_
      · intro w' hSw
        obtain ⟨sp0_, sp1_, sq0_, sq1_, sa0_, sa1_, sb0_, sb1_, ss0_, ss1_⟩ := hSw
        first | (go_simp; done) | (go_simp; with_reducible rfl) | (go_simp; rw [IntKind.wrap_i64]; omega) | (go_simp; omega)
      simp only [Act.put, List.setIfInBounds_toArray, List.set_cons_zero, List.set_cons_succ]
      refine wpAnyH_take (i := 6) (v := .bool false) rfl (by kernel_rfl) (by kernel_rfl) (by kernel_rfl) (fun _ _ _ h => h) (Or.inl ⟨by kernel_rfl, ?_⟩) hHeld ?_
      · intro w' hSw
        obtain ⟨sp0_, sp1_, sq0_, sq1_, sa0_, sa1_, sb0_, sb1_, ss0_, ss1_⟩ := hSw
        first | (go_simp; done) | (go_simp; with_reducible rfl) | (go_simp; rw [IntKind.wrap_i64]; omega) | (go_simp; omega)
      simp only [Act.put, List.setIfInBounds_toArray, List.set_cons_zero, List.set_cons_succ]
      refine wpAnyH_take (i := 7) (v := .pointer (some ⟨gp, 0, none⟩)) rfl (by kernel_rfl) (by kernel_rfl) (by kernel_rfl) (fun _ _ _ h => h) (Or.inl ⟨by kernel_rfl, ?_⟩) hHeld ?_
      · intro w' hSw
        obtain ⟨sp0_, sp1_, sq0_, sq1_, sa0_, sa1_, sb0_, sb1_, ss0_, ss1_⟩ := hSw
        first | (go_simp; done) | (go_simp; with_reducible rfl) | (go_simp; rw [IntKind.wrap_i64]; omega) | (go_simp; omega)
      simp only [Act.put, List.setIfInBounds_toArray, List.set_cons_zero, List.set_cons_succ]
      refine wpAnyH_take (i := 8) (v := .float .f64 r1) rfl (by kernel_rfl) (by kernel_rfl) (by kernel_rfl) (fun _ _ _ h => h) (Or.inl ⟨by kernel_rfl, ?_⟩) hHeld ?_
      · intro w' hSw
        obtain ⟨sp0_, sp1_, sq0_, sq1_, sa0_, sa1_, sb0_, sb1_, ss0_, ss1_⟩ := hSw
        first | (go_simp; done) | (go_simp; with_reducible rfl) | (go_simp; rw [IntKind.wrap_i64]; omega) | (go_simp; omega)
      simp only [Act.put, List.setIfInBounds_toArray, List.set_cons_zero, List.set_cons_succ]
      refine wpAnyH_take (i := 9) (v := .pointer (some ⟨gq, 0, none⟩)) rfl (by kernel_rfl) (by kernel_rfl) (by kernel_rfl) (fun _ _ _ h => h) (Or.inl ⟨by kernel_rfl, ?_⟩) hHeld ?_
      · intro w' hSw
        obtain ⟨sp0_, sp1_, sq0_, sq1_, sa0_, sa1_, sb0_, sb1_, ss0_, ss1_⟩ := hSw
        first | (go_simp; done) | (go_simp; with_reducible rfl) | (go_simp; rw [IntKind.wrap_i64]; omega) | (go_simp; omega)
      simp only [Act.put, List.setIfInBounds_toArray, List.set_cons_zero, List.set_cons_succ]
      refine wpAnyH_take (i := 10) (v := .float .f64 r2) rfl (by kernel_rfl) (by kernel_rfl) (by kernel_rfl) (fun _ _ _ h => h) (Or.inl ⟨by kernel_rfl, ?_⟩) hHeld ?_
      · intro w' hSw
        obtain ⟨sp0_, sp1_, sq0_, sq1_, sa0_, sa1_, sb0_, sb1_, ss0_, ss1_⟩ := hSw
        first | (go_simp; done) | (go_simp; with_reducible rfl) | (go_simp; rw [IntKind.wrap_i64]; omega) | (go_simp; omega)
      simp only [Act.put, List.setIfInBounds_toArray, List.set_cons_zero, List.set_cons_succ]
      refine wpAnyH_take (i := 11) (v := .bool false) rfl (by kernel_rfl) (by kernel_rfl) (by kernel_rfl) (fun _ _ _ h => h) (Or.inl ⟨by kernel_rfl, ?_⟩) hHeld ?_
      · intro w' hSw
        obtain ⟨sp0_, sp1_, sq0_, sq1_, sa0_, sa1_, sb0_, sb1_, ss0_, ss1_⟩ := hSw
        first | (go_simp; done) | (go_simp; with_reducible rfl) | (go_simp; rw [IntKind.wrap_i64]; omega) | (go_simp; omega)
      simp only [Act.put, List.setIfInBounds_toArray, List.set_cons_zero, List.set_cons_succ]
      refine wpAnyH_take (i := 12) (v := .bool false) rfl (by kernel_rfl) (by kernel_rfl) (by kernel_rfl) (fun _ _ _ h => h) (Or.inl ⟨by kernel_rfl, ?_⟩) hHeld ?_
      · intro w' hSw
        obtain ⟨sp0_, sp1_, sq0_, sq1_, sa0_, sa1_, sb0_, sb1_, ss0_, ss1_⟩ := hSw
        first | (go_simp; done) | (go_simp; with_reducible rfl) | (go_simp; rw [IntKind.wrap_i64]; omega) | (go_simp; omega)
      simp only [Act.put, List.setIfInBounds_toArray, List.set_cons_zero, List.set_cons_succ]
      refine wpAnyH_take (i := 13) (v := .pointer (some ⟨gp, 0, none⟩)) rfl (by kernel_rfl) (by kernel_rfl) (by kernel_rfl) (fun _ _ _ h => h) (Or.inl ⟨by kernel_rfl, ?_⟩) hHeld ?_
      · intro w' hSw
        obtain ⟨sp0_, sp1_, sq0_, sq1_, sa0_, sa1_, sb0_, sb1_, ss0_, ss1_⟩ := hSw
        first | (go_simp; done) | (go_simp; with_reducible rfl) | (go_simp; rw [IntKind.wrap_i64]; omega) | (go_simp; omega)
      simp only [Act.put, List.setIfInBounds_toArray, List.set_cons_zero, List.set_cons_succ]
      refine wpAnyH_take (i := 14) (v := .float .f64 r1) rfl (by kernel_rfl) (by kernel_rfl) (by kernel_rfl) (fun _ _ _ h => h) (Or.inl ⟨by kernel_rfl, ?_⟩) hHeld ?_
      · intro w' hSw
        obtain ⟨sp0_, sp1_, sq0_, sq1_, sa0_, sa1_, sb0_, sb1_, ss0_, ss1_⟩ := hSw
        first | (go_simp; done) | (go_simp; with_reducible rfl) | (go_simp; rw [IntKind.wrap_i64]; omega) | (go_simp; omega)
      simp only [Act.put, List.setIfInBounds_toArray, List.set_cons_zero, List.set_cons_succ]
      refine wpAnyH_take (i := 15) (v := .pointer (some ⟨gp, 0, none⟩)) rfl (by kernel_rfl) (by kernel_rfl) (by kernel_rfl) (fun _ _ _ h => h) (Or.inl ⟨by kernel_rfl, ?_⟩) hHeld ?_
      · intro w' hSw
        obtain ⟨sp0_, sp1_, sq0_, sq1_, sa0_, sa1_, sb0_, sb1_, ss0_, ss1_⟩ := hSw
        first | (go_simp; done) | (go_simp; with_reducible rfl) | (go_simp; rw [IntKind.wrap_i64]; omega) | (go_simp; omega)
      simp only [Act.put, List.setIfInBounds_toArray, List.set_cons_zero, List.set_cons_succ]
      refine wpAnyH_take (i := 16) (v := .float .f64 r1) rfl (by kernel_rfl) (by kernel_rfl) (by kernel_rfl) (fun _ _ _ h => h) (Or.inl ⟨by kernel_rfl, ?_⟩) hHeld ?_
      · intro w' hSw
        obtain ⟨sp0_, sp1_, sq0_, sq1_, sa0_, sa1_, sb0_, sb1_, ss0_, ss1_⟩ := hSw
        first | (go_simp; done) | (go_simp; with_reducible rfl) | (go_simp; rw [IntKind.wrap_i64]; omega) | (go_simp; omega)
      simp only [Act.put, List.setIfInBounds_toArray, List.set_cons_zero, List.set_cons_succ]
      refine wpAnyH_take (i := 17) (v := .bool true) rfl (by kernel_rfl) (by kernel_rfl) (by kernel_rfl) (fun _ _ _ h => h) (Or.inl ⟨by kernel_rfl, ?_⟩) hHeld ?_
      · intro w' hSw
        obtain ⟨sp0_, sp1_, sq0_, sq1_, sa0_, sa1_, sb0_, sb1_, ss0_, ss1_⟩ := hSw
        first | (go_simp; done) | (go_simp; with_reducible rfl) | (go_simp; rw [IntKind.wrap_i64]; omega) | (go_simp; omega)
      simp only [Act.put, List.setIfInBounds_toArray, List.set_cons_zero, List.set_cons_succ]
      refine wpAnyH_take (i := 18) (v := .bool true) rfl (by kernel_rfl) (by kernel_rfl) (by kernel_rfl) (fun _ _ _ h => h) (Or.inl ⟨by kernel_rfl, ?_⟩) hHeld ?_
      · intro w' hSw
        obtain ⟨sp0_, sp1_, sq0_, sq1_, sa0_, sa1_, sb0_, sb1_, ss0_, ss1_⟩ := hSw
        first | (go_simp; done) | (go_simp; with_reducible rfl) | (go_simp; rw [IntKind.wrap_i64]; omega) | (go_simp; omega)
      simp only [Act.put, List.setIfInBounds_toArray, List.set_cons_zero, List.set_cons_succ]
      refine wpAnyH_take (i := 19) (v := .bool false) rfl (by kernel_rfl) (by kernel_rfl) (by kernel_rfl) (fun _ _ _ h => h) (Or.inl ⟨by kernel_rfl, ?_⟩) hHeld ?_
      · intro w' hSw
        obtain ⟨sp0_, sp1_, sq0_, sq1_, sa0_, sa1_, sb0_, sb1_, ss0_, ss1_⟩ := hSw
        first | (go_simp; done) | (go_simp; with_reducible rfl) | (go_simp; rw [IntKind.wrap_i64]; omega) | (go_simp; omega)
      simp only [Act.put, List.setIfInBounds_toArray, List.set_cons_zero, List.set_cons_succ]
      refine wpAnyH_take (i := 20) (v := .bool false) rfl (by kernel_rfl) (by kernel_rfl) (by kernel_rfl) (fun _ _ _ h => h) (Or.inl ⟨by kernel_rfl, ?_⟩) hHeld ?_
      · intro w' hSw
        obtain ⟨sp0_, sp1_, sq0_, sq1_, sa0_, sa1_, sb0_, sb1_, ss0_, ss1_⟩ := hSw
        first | (go_simp; done) | (go_simp; with_reducible rfl) | (go_simp; rw [IntKind.wrap_i64]; omega) | (go_simp; omega)
      simp only [Act.put, List.setIfInBounds_toArray, List.set_cons_zero, List.set_cons_succ]
      refine wpAnyH_take (i := 21) (v := .bool false) rfl (by kernel_rfl) (by kernel_rfl) (by kernel_rfl) (fun _ _ _ h => h) (Or.inl ⟨by kernel_rfl, ?_⟩) hHeld ?_
      · intro w' hSw
        obtain ⟨sp0_, sp1_, sq0_, sq1_, sa0_, sa1_, sb0_, sb1_, ss0_, ss1_⟩ := hSw
        first | (go_simp; done) | (go_simp; with_reducible rfl) | (go_simp; rw [IntKind.wrap_i64]; omega) | (go_simp; omega)
      simp only [Act.put, List.setIfInBounds_toArray, List.set_cons_zero, List.set_cons_succ]
      refine wpAnyH_take (i := 22) (v := .pointer (some ⟨gp, 1, none⟩)) rfl (by kernel_rfl) (by kernel_rfl) (by kernel_rfl) (fun _ _ _ h => h) (Or.inl ⟨by kernel_rfl, ?_⟩) hHeld ?_
      · intro w' hSw
        obtain ⟨sp0_, sp1_, sq0_, sq1_, sa0_, sa1_, sb0_, sb1_, ss0_, ss1_⟩ := hSw
        first | (go_simp; done) | (go_simp; with_reducible rfl) | (go_simp; rw [IntKind.wrap_i64]; omega) | (go_simp; omega)
      simp only [Act.put, List.setIfInBounds_toArray, List.set_cons_zero, List.set_cons_succ]
      refine wpAnyH_take (i := 23) (v := .float .f64 i1) rfl (by kernel_rfl) (by kernel_rfl) (by kernel_rfl) (fun _ _ _ h => h) (Or.inl ⟨by kernel_rfl, ?_⟩) hHeld ?_
      · intro w' hSw
        obtain ⟨sp0_, sp1_, sq0_, sq1_, sa0_, sa1_, sb0_, sb1_, ss0_, ss1_⟩ := hSw
        first | (go_simp; done) | (go_simp; with_reducible rfl) | (go_simp; rw [IntKind.wrap_i64]; omega) | (go_simp; omega)
      simp only [Act.put, List.setIfInBounds_toArray, List.set_cons_zero, List.set_cons_succ]
      refine wpAnyH_take (i := 24) (v := .pointer (some ⟨gq, 1, none⟩)) rfl (by kernel_rfl) (by kernel_rfl) (by kernel_rfl) (fun _ _ _ h => h) (Or.inl ⟨by kernel_rfl, ?_⟩) hHeld ?_
      · intro w' hSw
        obtain ⟨sp0_, sp1_, sq0_, sq1_, sa0_, sa1_, sb0_, sb1_, ss0_, ss1_⟩ := hSw
        first | (go_simp; done) | (go_simp; with_reducible rfl) | (go_simp; rw [IntKind.wrap_i64]; omega) | (go_simp; omega)
      simp only [Act.put, List.setIfInBounds_toArray, List.set_cons_zero, List.set_cons_succ]
      refine wpAnyH_take (i := 25) (v := .float .f64 i2) rfl (by kernel_rfl) (by kernel_rfl) (by kernel_rfl) (fun _ _ _ h => h) (Or.inl ⟨by kernel_rfl, ?_⟩) hHeld ?_
      · intro w' hSw
        obtain ⟨sp0_, sp1_, sq0_, sq1_, sa0_, sa1_, sb0_, sb1_, ss0_, ss1_⟩ := hSw
        first | (go_simp; done) | (go_simp; with_reducible rfl) | (go_simp; rw [IntKind.wrap_i64]; omega) | (go_simp; omega)
      simp only [Act.put, List.setIfInBounds_toArray, List.set_cons_zero, List.set_cons_succ]
      refine wpAnyH_take (i := 26) (v := .bool false) rfl (by kernel_rfl) (by kernel_rfl) (by kernel_rfl) (fun _ _ _ h => h) (Or.inl ⟨by kernel_rfl, ?_⟩) hHeld ?_
      · intro w' hSw
        obtain ⟨sp0_, sp1_, sq0_, sq1_, sa0_, sa1_, sb0_, sb1_, ss0_, ss1_⟩ := hSw
        first | (go_simp; done) | (go_simp; with_reducible rfl) | (go_simp; rw [IntKind.wrap_i64]; omega) | (go_simp; omega)
      simp only [Act.put, List.setIfInBounds_toArray, List.set_cons_zero, List.set_cons_succ]
      refine wpAnyH_take (i := 27) (v := .bool false) rfl (by kernel_rfl) (by kernel_rfl) (by kernel_rfl) (fun _ _ _ h => h) (Or.inl ⟨by kernel_rfl, ?_⟩) hHeld ?_
      · intro w' hSw
        obtain ⟨sp0_, sp1_, sq0_, sq1_, sa0_, sa1_, sb0_, sb1_, ss0_, ss1_⟩ := hSw
        first | (go_simp; done) | (go_simp; with_reducible rfl) | (go_simp; rw [IntKind.wrap_i64]; omega) | (go_simp; omega)
      simp only [Act.put, List.setIfInBounds_toArray, List.set_cons_zero, List.set_cons_succ]
      refine wpAnyH_take (i := 28) (v := .pointer (some ⟨gp, 1, none⟩)) rfl (by kernel_rfl) (by kernel_rfl) (by kernel_rfl) (fun _ _ _ h => h) (Or.inl ⟨by kernel_rfl, ?_⟩) hHeld ?_
      · intro w' hSw
        obtain ⟨sp0_, sp1_, sq0_, sq1_, sa0_, sa1_, sb0_, sb1_, ss0_, ss1_⟩ := hSw
        first | (go_simp; done) | (go_simp; with_reducible rfl) | (go_simp; rw [IntKind.wrap_i64]; omega) | (go_simp; omega)
      simp only [Act.put, List.setIfInBounds_toArray, List.set_cons_zero, List.set_cons_succ]
      refine wpAnyH_take (i := 29) (v := .float .f64 i1) rfl (by kernel_rfl) (by kernel_rfl) (by kernel_rfl) (fun _ _ _ h => h) (Or.inl ⟨by kernel_rfl, ?_⟩) hHeld ?_
      · intro w' hSw
        obtain ⟨sp0_, sp1_, sq0_, sq1_, sa0_, sa1_, sb0_, sb1_, ss0_, ss1_⟩ := hSw
        first | (go_simp; done) | (go_simp; with_reducible rfl) | (go_simp; rw [IntKind.wrap_i64]; omega) | (go_simp; omega)
      simp only [Act.put, List.setIfInBounds_toArray, List.set_cons_zero, List.set_cons_succ]
      refine wpAnyH_take (i := 30) (v := .pointer (some ⟨gp, 1, none⟩)) rfl (by kernel_rfl) (by kernel_rfl) (by kernel_rfl) (fun _ _ _ h => h) (Or.inl ⟨by kernel_rfl, ?_⟩) hHeld ?_
      · intro w' hSw
        obtain ⟨sp0_, sp1_, sq0_, sq1_, sa0_, sa1_, sb0_, sb1_, ss0_, ss1_⟩ := hSw
        first | (go_simp; done) | (go_simp; with_reducible rfl) | (go_simp; rw [IntKind.wrap_i64]; omega) | (go_simp; omega)
      simp only [Act.put, List.setIfInBounds_toArray, List.set_cons_zero, List.set_cons_succ]
      refine wpAnyH_take (i := 31) (v := .float .f64 i1) rfl (by kernel_rfl) (by kernel_rfl) (by kernel_rfl) (fun _ _ _ h => h) (Or.inl ⟨by kernel_rfl, ?_⟩) hHeld ?_
      · intro w' hSw
        obtain ⟨sp0_, sp1_, sq0_, sq1_, sa0_, sa1_, sb0_, sb1_, ss0_, ss1_⟩ := hSw
        first | (go_simp; done) | (go_simp; with_reducible rfl) | (go_simp; rw [IntKind.wrap_i64]; omega) | (go_simp; omega)
      simp only [Act.put, List.setIfInBounds_toArray, List.set_cons_zero, List.set_cons_succ]
      refine wpAnyH_take (i := 32) (v := .bool true) rfl (by kernel_rfl) (by kernel_rfl) (by kernel_rfl) (fun _ _ _ h => h) (Or.inl ⟨by kernel_rfl, ?_⟩) hHeld ?_
      · intro w' hSw
        obtain ⟨sp0_, sp1_, sq0_, sq1_, sa0_, sa1_, sb0_, sb1_, ss0_, ss1_⟩ := hSw
        first | (go_simp; done) | (go_simp; with_reducible rfl) | (go_simp; rw [IntKind.wrap_i64]; omega) | (go_simp; omega)
      simp only [Act.put, List.setIfInBounds_toArray, List.set_cons_zero, List.set_cons_succ]
      refine wpAnyH_take (i := 33) (v := .bool true) rfl (by kernel_rfl) (by kernel_rfl) (by kernel_rfl) (fun _ _ _ h => h) (Or.inl ⟨by kernel_rfl, ?_⟩) hHeld ?_
      · intro w' hSw
        obtain ⟨sp0_, sp1_, sq0_, sq1_, sa0_, sa1_, sb0_, sb1_, ss0_, ss1_⟩ := hSw
        first | (go_simp; done) | (go_simp; with_reducible rfl) | (go_simp; rw [IntKind.wrap_i64]; omega) | (go_simp; omega)
      simp only [Act.put, List.setIfInBounds_toArray, List.set_cons_zero, List.set_cons_succ]
      refine wpAnyH_take (i := 34) (v := .bool false) rfl (by kernel_rfl) (by kernel_rfl) (by kernel_rfl) (fun _ _ _ h => h) (Or.inl ⟨by kernel_rfl, ?_⟩) hHeld ?_
      · intro w' hSw
        obtain ⟨sp0_, sp1_, sq0_, sq1_, sa0_, sa1_, sb0_, sb1_, ss0_, ss1_⟩ := hSw
        first | (go_simp; done) | (go_simp; with_reducible rfl) | (go_simp; rw [IntKind.wrap_i64]; omega) | (go_simp; omega)
      simp only [Act.put, List.setIfInBounds_toArray, List.set_cons_zero, List.set_cons_succ]
      refine wpAnyH_take (i := 35) (v := .bool false) rfl (by kernel_rfl) (by kernel_rfl) (by kernel_rfl) (fun _ _ _ h => h) (Or.inl ⟨by kernel_rfl, ?_⟩) hHeld ?_
      · intro w' hSw
        obtain ⟨sp0_, sp1_, sq0_, sq1_, sa0_, sa1_, sb0_, sb1_, ss0_, ss1_⟩ := hSw
        first | (go_simp; done) | (go_simp; with_reducible rfl) | (go_simp; rw [IntKind.wrap_i64]; omega) | (go_simp; omega)
      simp only [Act.put, List.setIfInBounds_toArray, List.set_cons_zero, List.set_cons_succ]
      refine wpAnyH_take (i := 36) (v := .bool false) rfl (by kernel_rfl) (by kernel_rfl) (by kernel_rfl) (fun _ _ _ h => h) (Or.inl ⟨by kernel_rfl, ?_⟩) hHeld ?_
      · intro w' hSw
        obtain ⟨sp0_, sp1_, sq0_, sq1_, sa0_, sa1_, sb0_, sb1_, ss0_, ss1_⟩ := hSw
        first | (go_simp; done) | (go_simp; with_reducible rfl) | (go_simp; rw [IntKind.wrap_i64]; omega) | (go_simp; omega)
      simp only [Act.put, List.setIfInBounds_toArray, List.set_cons_zero, List.set_cons_succ]
      refine wpAnyH_take (i := 37) (v := .agg #[.float .f64 r5, .float .f64 i5]) rfl (by kernel_rfl) (by kernel_rfl) (by kernel_rfl) (fun _ _ _ h => h) (Or.inl ⟨by kernel_rfl, ?_⟩) hHeld ?_
      · intro w' hSw
        obtain ⟨sp0_, sp1_, sq0_, sq1_, sa0_, sa1_, sb0_, sb1_, ss0_, ss1_⟩ := hSw
        first | (go_simp; done) | (go_simp; with_reducible rfl) | (go_simp; rw [IntKind.wrap_i64]; omega) | (go_simp; omega)
      simp only [Act.put, List.setIfInBounds_toArray, List.set_cons_zero, List.set_cons_succ]
      refine wpAnyH_take (i := 38) (v := .agg #[.float .f64 z, .float .f64 u]) rfl (by kernel_rfl) (by kernel_rfl) (by kernel_rfl) (fun _ _ _ h => h) (Or.inl ⟨by kernel_rfl, ?_⟩) hHeld ?_
      · intro w' hSw
        obtain ⟨sp0_, sp1_, sq0_, sq1_, sa0_, sa1_, sb0_, sb1_, ss0_, ss1_⟩ := hSw
        first | (go_simp; done) | (go_simp; with_reducible rfl) | (go_simp; rw [IntKind.wrap_i64]; omega) | (go_simp; omega)
      simp only [Act.put, List.setIfInBounds_toArray, List.set_cons_zero, List.set_cons_succ]
      refine wpAnyH_take (i := 39) (v := .agg #[.float .f64 x, .float .f64 y]) rfl (by kernel_rfl) (by kernel_rfl) (by kernel_rfl) (fun _ _ _ h => h) (Or.inl ⟨by kernel_rfl, ?_⟩) hHeld ?_
      · intro w' hSw
        obtain ⟨sp0_, sp1_, sq0_, sq1_, sa0_, sa1_, sb0_, sb1_, ss0_, ss1_⟩ := hSw
        first | (go_simp; done) | (go_simp; with_reducible rfl) | (go_simp; rw [IntKind.wrap_i64]; omega) | (go_simp; omega)
      simp only [Act.put, List.setIfInBounds_toArray, List.set_cons_zero, List.set_cons_succ]
      refine wpAnyH_ready (rs := [40]) (by kernel_rfl) (by simp) ?_
      refine AllReadyH.cons rfl (fun KK hK => ?_) AllReadyH.nil
      go_simp
      go_wp2_with (first | (go_at_call 12; refine (implAddPair_any fc.out fd.out fa.out fb.out _).mono ?_; rintro e w9 ⟨r6, i6, rfl, f6_, g6_, h7⟩; have f6 : Hid (Fl r6 (opO .add a c_)) := (by show Fl _ _; rw [oadd_comm]; exact f6_); have g6 : Hid (Fl i6 (opO .add b d)) := (by show Fl _ _; rw [oadd_comm]; exact g6_); have SP6 : Hid (∀ w, Calls Try.prog 13 #[.agg #[.float .f64 r5, .float .f64 i5], .agg #[.float .f64 r6, .float .f64 i6]] w fun e w' => e = .returned (.bool true) ∧ Below w.heap.size w w') := fun w => (by have q := implSamePair_any r5 i5 r6 i6 f5.out.1 g5.out.1 f6.out.1 g6.out.1 w; rw [fl_same f5.out f6.out, fl_same g5.out g6.out] at q; exact q); have B9 : Below wv9.heap.size wv9 w9 := B8.trans (h7.mono s8); have s9 := B9.size; clear h7 f6_ g6_))
      refine hK.out _ _ (⟨(Hp.out.below B9).2.2 0 _ rfl, (Hp.out.below B9).2.2 1 _ rfl, (Hq.out.below B9).2.2 0 _ rfl, (Hq.out.below B9).2.2 1 _ rfl, (Ha.out.below B9).2.2 0 _ rfl, (Ha.out.below B9).2.2 1 _ rfl, (Hb.out.below B9).2.2 0 _ rfl, (Hb.out.below B9).2.2 1 _ rfl, (Hs.out.below B9).2.2 0 _ rfl, (Hs.out.below B9).2.2 1 _ rfl⟩) (fun hHeld => ?_)
      clear hK KK
      refine wpAnyH_ready (rs := [41]) (by kernel_rfl) (by simp) ?_
      refine AllReadyH.cons rfl (fun KK hK => ?_) AllReadyH.nil
      go_simp
      go_wp2_with (first | (go_at_call 13; refine (SP6.out _).mono ?_; rintro e w10 ⟨rfl, h7⟩; have B10 : Below wv9.heap.size wv9 w10 := B9.trans (h7.mono s9); have s10 := B10.size; clear h7))
      refine hK.out _ _ (⟨(Hp.out.below B10).2.2 0 _ rfl, (Hp.out.below B10).2.2 1 _ rfl, (Hq.out.below B10).2.2 0 _ rfl, (Hq.out.below B10).2.2 1 _ rfl, (Ha.out.below B10).2.2 0 _ rfl, (Ha.out.below B10).2.2 1 _ rfl, (Hb.out.below B10).2.2 0 _ rfl, (Hb.out.below B10).2.2 1 _ rfl, (Hs.out.below B10).2.2 0 _ rfl, (Hs.out.below B10).2.2 1 _ rfl⟩) (fun hHeld => ?_)
      clear hK KK
      refine wpAnyH_take (i := 42) (v := .bool false) rfl (by kernel_rfl) (by kernel_rfl) (by kernel_rfl) (fun _ _ _ h => h) (Or.inl ⟨by kernel_rfl, ?_⟩) hHeld ?_
      · intro w' hSw
        obtain ⟨sp0_, sp1_, sq0_, sq1_, sa0_, sa1_, sb0_, sb1_, ss0_, ss1_⟩ := hSw
        first | (go_simp; done) | (go_simp; with_reducible rfl) | (go_simp; rw [IntKind.wrap_i64]; omega) | (go_simp; omega)
      simp only [Act.put, List.setIfInBounds_toArray, List.set_cons_zero, List.set_cons_succ]
      refine wpAnyH_ready (rs := [43]) (by kernel_rfl) (by simp) ?_
      refine AllReadyH.cons rfl (fun KK hK => ?_) AllReadyH.nil
      go_simp
      refine hK.out _ _ hHeld (fun hHeld => ?_)
      clear hK KK
      refine wpAnyH_done (by kernel_rfl) ?_ _
      have bl_ := B10
      clear hHeld B7 B8 B9 s7 s8 s9 s10 f3 g3 f6 g6 SP3 SP6
      replace Ha : Hid (Blk w10 ga [.float .f64 x, .float .f64 y]) := Ha.out.below bl_
      replace Hb : Hid (Blk w10 gb [.float .f64 z, .float .f64 u]) := Hb.out.below bl_
      replace Hp : Hid (Blk w10 gp [.float .f64 r1, .float .f64 i1]) := Hp.out.below bl_
      replace Hq : Hid (Blk w10 gq [.float .f64 r2, .float .f64 i2]) := Hq.out.below bl_
      replace Hs : Hid (Blk w10 gs [.float .f64 r5, .float .f64 i5]) := Hs.out.below bl_
      replace HB : Hid (Below w1.heap.size w1 w10) := HB.out.trans (bl_.mono HB.out.size)
      clear bl_ B10
      clear Hp
      clear Hq
      clear Hs
      have KX : Hid (∀ w : World, Calls Try.prog 15 #[.float .f64 x] w fun e w' => e = .returned (.bool (knownB x)) ∧ ∃ n, w' = w.drewN n) := fun w => specKnown_any x w
      have KY : Hid (∀ w : World, Calls Try.prog 15 #[.float .f64 y] w fun e w' => e = .returned (.bool (knownB y)) ∧ ∃ n, w' = w.drewN n) := fun w => specKnown_any y w
      obtain ⟨z_a, f_a, c_a⟩ := Ha.out
      have ac0 : w10.cell? ⟨ga, 0, none⟩ = some (.float .f64 x) := c_a 0 _ rfl
      have ac1 : w10.cell? ⟨ga, 1, none⟩ = some (.float .f64 y) := c_a 1 _ rfl
      clear f_a c_a
      go_wp2_with fail
      refine (KX.out _).mono ?_
      rintro e wv10 ⟨rfl, q_, hw⟩
      have h_ : Below w10.heap.size w10 wv10 := by rw [hw]; exact (by repeat (first | with_reducible exact Below.refl _ _ | with_reducible refine Below.setCell ?_ (by first | omega | (simp; done) | (simp; omega)) _ | with_reducible refine bDrewN ?_ _ | with_reducible refine Below.drew ?_ | with_reducible refine Below.alloc ?_ (by first | omega | (simp; done) | (simp; omega)) _))
      clear hw
      replace Ha : Hid (Blk wv10 ga [.float .f64 x, .float .f64 y]) := Ha.out.below h_
      replace Hb : Hid (Blk wv10 gb [.float .f64 z, .float .f64 u]) := Hb.out.below h_
      replace HB : Hid (Below w1.heap.size w1 wv10) := HB.out.trans (h_.mono HB.out.size)
      clear h_
      clear ac0 ac1 z_a
      cases kx : knownB x
      case false =>
        have BF := HB.out
        have sBF := BF.size
        go_wp2
        go_ret
        exact ⟨rfl, (by repeat (first | with_reducible exact Below.refl _ _ | with_reducible exact BF | with_reducible refine Below.setCell ?_ (by first | omega | (simp; done) | (simp; omega)) _ | with_reducible refine bDrewN ?_ _ | with_reducible refine Below.drew ?_ | with_reducible refine Below.alloc ?_ (by first | omega | (simp; done) | (simp; omega)) _))⟩
      case true =>
        obtain ⟨z_a, f_a, c_a⟩ := Ha.out
        have ac0 : wv10.cell? ⟨ga, 0, none⟩ = some (.float .f64 x) := c_a 0 _ rfl
        have ac1 : wv10.cell? ⟨ga, 1, none⟩ = some (.float .f64 y) := c_a 1 _ rfl
        clear f_a c_a
        go_wp2_with fail
        refine (KY.out _).mono ?_
        rintro e wv11 ⟨rfl, q_, hw⟩
        have h_ : Below wv10.heap.size wv10 wv11 := by rw [hw]; exact (by repeat (first | with_reducible exact Below.refl _ _ | with_reducible refine Below.setCell ?_ (by first | omega | (simp; done) | (simp; omega)) _ | with_reducible refine bDrewN ?_ _ | with_reducible refine Below.drew ?_ | with_reducible refine Below.alloc ?_ (by first | omega | (simp; done) | (simp; omega)) _))
        clear hw
        replace Ha : Hid (Blk wv11 ga [.float .f64 x, .float .f64 y]) := Ha.out.below h_
        replace Hb : Hid (Blk wv11 gb [.float .f64 z, .float .f64 u]) := Hb.out.below h_
        replace HB : Hid (Below w1.heap.size w1 wv11) := HB.out.trans (h_.mono HB.out.size)
        clear h_
        clear ac0 ac1 z_a
        cases ky : knownB y
        case false =>
          have BF := HB.out
          have sBF := BF.size
          go_wp2
          go_ret
          exact ⟨rfl, (by repeat (first | with_reducible exact Below.refl _ _ | with_reducible exact BF | with_reducible refine Below.setCell ?_ (by first | omega | (simp; done) | (simp; omega)) _ | with_reducible refine bDrewN ?_ _ | with_reducible refine Below.drew ?_ | with_reducible refine Below.alloc ?_ (by first | omega | (simp; done) | (simp; omega)) _))⟩
        case true =>
          have hx0 : rg x < INF := of_decide_eq_true kx
          have hy0 : rg y < INF := of_decide_eq_true ky
          clear kx ky
          have FX : Hid (Fl x (some x)) := ⟨lx, .inl ⟨Nat.le_of_lt hx0, rfl⟩⟩
          have FY : Hid (Fl y (some y)) := ⟨ly, .inl ⟨Nat.le_of_lt hy0, rfl⟩⟩
          obtain ⟨z_a, f_a, c_a⟩ := Ha.out
          have ac0 : wv11.cell? ⟨ga, 0, none⟩ = some (.float .f64 x) := c_a 0 _ rfl
          have ac1 : wv11.cell? ⟨ga, 1, none⟩ = some (.float .f64 y) := c_a 1 _ rfl
          clear f_a c_a
          go_wp2_with fail
          refine (implSubPair_any FX.out FY.out FX.out FY.out _).mono ?_
          rintro e wv12 ⟨r7, i7, rfl, f7, g7, h_⟩
          replace Ha : Hid (Blk wv12 ga [.float .f64 x, .float .f64 y]) := Ha.out.below h_
          replace Hb : Hid (Blk wv12 gb [.float .f64 z, .float .f64 u]) := Hb.out.below h_
          replace HB : Hid (Below w1.heap.size w1 wv12) := HB.out.trans (h_.mono HB.out.size)
          clear h_
          clear ac0 ac1 z_a
          rw [sub_self_o hx0] at f7
          rw [sub_self_o hy0] at g7
          obtain rfl : r7 = 0 := fl_val f7
          obtain rfl : i7 = 0 := fl_val g7
          clear f7 g7
          go_upto_region 12 with fail
          obtain ⟨wv13, hw_⟩ : ∃ x_, x_ = wv12.alloc (.cells #[.float .f64 0, .float .f64 0] 26) := ⟨_, rfl⟩
          rw [← hw_]
          have Hd : Hid (Blk wv13 wv12.heap.size [.float .f64 0, .float .f64 0]) := by show Blk _ _ _; rw [hw_]; exact Blk.new wv12 #[.float .f64 0, .float .f64 0] _
          have bl_ : Below wv12.heap.size wv12 wv13 := by rw [hw_]; exact below0 _ _
          clear hw_
          replace Ha : Hid (Blk wv13 ga [.float .f64 x, .float .f64 y]) := Ha.out.below bl_
          replace Hb : Hid (Blk wv13 gb [.float .f64 z, .float .f64 u]) := Hb.out.below bl_
          replace HB : Hid (Below w1.heap.size w1 wv13) := HB.out.trans (bl_.mono HB.out.size)
          obtain ⟨gd, hg_⟩ : ∃ g, g = wv12.heap.size := ⟨_, rfl⟩
          rw [← hg_] at Hd ⊢
          clear hg_ bl_
          obtain ⟨z_a, f_a, c_a⟩ := Ha.out
          have ac0 : wv13.cell? ⟨ga, 0, none⟩ = some (.float .f64 x) := c_a 0 _ rfl
          have ac1 : wv13.cell? ⟨ga, 1, none⟩ = some (.float .f64 y) := c_a 1 _ rfl
          clear f_a c_a
          go_wp2_with fail
          refine (implPower_any FX.out FY.out FX.out FY.out _).mono ?_
          rintro e wv14 ⟨r8, i8, rfl, f8, g8, h_⟩
          replace Ha : Hid (Blk wv14 ga [.float .f64 x, .float .f64 y]) := Ha.out.below h_
          replace Hb : Hid (Blk wv14 gb [.float .f64 z, .float .f64 u]) := Hb.out.below h_
          replace Hd : Hid (Blk wv14 gd [.float .f64 0, .float .f64 0]) := Hd.out.below h_
          replace HB : Hid (Below w1.heap.size w1 wv14) := HB.out.trans (h_.mono HB.out.size)
          clear h_
          clear ac0 ac1 z_a
          go_upto_region 13 with fail
          obtain ⟨wv15, hw_⟩ : ∃ x_, x_ = wv14.alloc (.cells #[.float .f64 r8, .float .f64 i8] 26) := ⟨_, rfl⟩
          rw [← hw_]
          have Hw : Hid (Blk wv15 wv14.heap.size [.float .f64 r8, .float .f64 i8]) := by show Blk _ _ _; rw [hw_]; exact Blk.new wv14 #[.float .f64 r8, .float .f64 i8] _
          have bl_ : Below wv14.heap.size wv14 wv15 := by rw [hw_]; exact below0 _ _
          clear hw_
          replace Ha : Hid (Blk wv15 ga [.float .f64 x, .float .f64 y]) := Ha.out.below bl_
          replace Hb : Hid (Blk wv15 gb [.float .f64 z, .float .f64 u]) := Hb.out.below bl_
          replace Hd : Hid (Blk wv15 gd [.float .f64 0, .float .f64 0]) := Hd.out.below bl_
          replace HB : Hid (Below w1.heap.size w1 wv15) := HB.out.trans (bl_.mono HB.out.size)
          obtain ⟨gw, hg_⟩ : ∃ g, g = wv14.heap.size := ⟨_, rfl⟩
          rw [← hg_] at Hw ⊢
          clear hg_ bl_
          have z0 : (FloatKind.f64.format.order 0 0 != some .eq) = false := by decide
          have HK : Hid (knownB r8 = true → (FloatKind.f64.format.order i8 0 == some .eq) = true) := power_known (power_self lx ly hx0 hy0) f8 g8
          clear f8 g8
          have KR : Hid (∀ w : World, Calls Try.prog 15 #[.float .f64 r8] w fun e w' => e = .returned (.bool (knownB r8)) ∧ ∃ n, w' = w.drewN n) := fun w => specKnown_any r8 w
          obtain ⟨z_d, f_d, c_d⟩ := Hd.out
          have dc0 : wv15.cell? ⟨gd, 0, none⟩ = some (.float .f64 0) := c_d 0 _ rfl
          have dc1 : wv15.cell? ⟨gd, 1, none⟩ = some (.float .f64 0) := c_d 1 _ rfl
          clear f_d c_d
          obtain ⟨z_w, f_w, c_w⟩ := Hw.out
          have wc0 : wv15.cell? ⟨gw, 0, none⟩ = some (.float .f64 r8) := c_w 0 _ rfl
          have wc1 : wv15.cell? ⟨gw, 1, none⟩ = some (.float .f64 i8) := c_w 1 _ rfl
          clear f_w c_w
          go_wp2_with fail
          refine (KR.out _).mono ?_
          rintro e wv16 ⟨rfl, q_, hw⟩
          have h_ : Below wv15.heap.size wv15 wv16 := by rw [hw]; exact (by repeat (first | with_reducible exact Below.refl _ _ | with_reducible refine Below.setCell ?_ (by first | omega | (simp; done) | (simp; omega)) _ | with_reducible refine bDrewN ?_ _ | with_reducible refine Below.drew ?_ | with_reducible refine Below.alloc ?_ (by first | omega | (simp; done) | (simp; omega)) _))
          clear hw
          replace Ha : Hid (Blk wv16 ga [.float .f64 x, .float .f64 y]) := Ha.out.below h_
          replace Hb : Hid (Blk wv16 gb [.float .f64 z, .float .f64 u]) := Hb.out.below h_
          replace Hd : Hid (Blk wv16 gd [.float .f64 0, .float .f64 0]) := Hd.out.below h_
          replace Hw : Hid (Blk wv16 gw [.float .f64 r8, .float .f64 i8]) := Hw.out.below h_
          replace HB : Hid (Below w1.heap.size w1 wv16) := HB.out.trans (h_.mono HB.out.size)
          clear h_
          clear dc0 dc1 z_d
          clear wc0 wc1 z_w
          cases kr : knownB r8
          case false =>
            obtain ⟨z_w, f_w, c_w⟩ := Hw.out
            have wc0 : wv16.cell? ⟨gw, 0, none⟩ = some (.float .f64 r8) := c_w 0 _ rfl
            have wc1 : wv16.cell? ⟨gw, 1, none⟩ = some (.float .f64 i8) := c_w 1 _ rfl
            clear f_w c_w
            have BF := HB.out
            have sBF := BF.size
            go_wp2
            go_ret
            exact ⟨rfl, (by repeat (first | with_reducible exact Below.refl _ _ | with_reducible exact BF | with_reducible refine Below.setCell ?_ (by first | omega | (simp; done) | (simp; omega)) _ | with_reducible refine bDrewN ?_ _ | with_reducible refine Below.drew ?_ | with_reducible refine Below.alloc ?_ (by first | omega | (simp; done) | (simp; omega)) _))⟩
          case true =>
            have hi := HK.out kr
            obtain ⟨z_w, f_w, c_w⟩ := Hw.out
            have wc0 : wv16.cell? ⟨gw, 0, none⟩ = some (.float .f64 r8) := c_w 0 _ rfl
            have wc1 : wv16.cell? ⟨gw, 1, none⟩ = some (.float .f64 i8) := c_w 1 _ rfl
            clear f_w c_w
            have BF := HB.out
            have sBF := BF.size
            go_wp2
            go_ret
            exact ⟨rfl, (by repeat (first | with_reducible exact Below.refl _ _ | with_reducible exact BF | with_reducible refine Below.setCell ?_ (by first | omega | (simp; done) | (simp; omega)) _ | with_reducible refine bDrewN ?_ _ | with_reducible refine Below.drew ?_ | with_reducible refine Below.alloc ?_ (by first | omega | (simp; done) | (simp; omega)) _))⟩
theorem fnPairs_walk (w : World) (s : Option Addr) (n c : Nat) (hn : n ≤ 9223372036854775807) (R : Bytes w s n) :
    Calls Try.prog 3 #[.slice s n c] w fun e w' => e = .returned (.bool true) ∧ Below w.heap.size w w' := by
  by_cases h : n ≤ 1048576
  · exact pairs_near w s n c (by omega) (R.code h)
  · exact pairs_far w s n c (by omega)

set_option maxRecDepth 100000 in
theorem fnPairs_lifted (os : Os) (started : os.Started) (H : Type) (enc : TypeId × Value → H) :
    ReturnsInHanded {} Try.checked os 3 .any (Rows.fnPairsSpec.pre6 enc Try.prog Try.f3 Rows.fnPairsRow.domain false) (Rows.fnPairsSpec.post enc Try.prog Try.f3 false true false false) := by
  refine returnsInHanded_of_change (C := Try.checked) own started (by kernel_rfl) Try.func3
    (ChangeSpec.witness6 (enc := enc) (C := Try.checked) false ⟨#[], #[.slice none 0 0], []⟩ 8 (by kernel_rfl) (by kernel_rfl) (by kernel_rfl) (by kernel_rfl)) ?_
  intro W base args ds gs before hval0 hW hcnd _
  have hval : ∀ (j : Nat) t v, Try.f3.params[j]? = some t → args[j]? = some v → Value.okWide Try.prog W .any base t v := hval0
  have hW' := hW
  obtain ⟨p, q, hA0, hV, rfl, hfz, hnd⟩ := hW
  have hA : DataW.TrodAll enc Try.prog W 0 (fun _ => true) true Try.f3.params.toList args.toList ds p := hA0
  rw [Try.params3] at hA hval
  obtain ⟨v0, vs0, d0, ds0, p0, q0, hargs, rfl, rfl, h0, r0⟩ := trodAll_cons hA
  obtain ⟨rfl, rfl, rfl⟩ := trodAll_nil r0
  obtain rfl : args = #[v0] := by cases args; simp_all
  obtain ⟨rfl, rfl⟩ := trodVars_none hV
  have k0 := h0
  have lt0 : ∀ x ∈ p0, x.block < W.heap.size := by obtain ⟨m, hm⟩ := k0; exact DataW.trod_lt m _ _ _ hm
  obtain ⟨s0, n0, c0, rfl, m0, R0⟩ := open_code Try.underlying22 Try.underlying5 (by kernel_rfl) (hval 0 22 v0 rfl rfl) h0
  clear hA0 hval0
  refine (fnPairs_walk W s0 n0 c0 m0 R0).mono fun e W' ⟨he, bel⟩ => ?_
  subst he
  exact ⟨_, rfl, _, _, _, [], _, [], hW', trodAll_mk1 (shut_bool Try.underlying4 _), (trodAll_cons_mk (Below.trod laidOut (by kernel_rfl) (of_decide_eq_true (by kernel_rfl)) k0 bel lt0) trodAll_mk0), rfl, bel.frame _, fun h => by cases h⟩

theorem fnPairs_holds : Rows.FnPairsSaid :=
  OpenClaim.holds_of_wide 3 Try.f3 rfl rfl rfl rfl rfl rfl rfl ⟨rfl, rfl, rfl, rfl, rfl⟩ rfl rfl rfl rfl rfl (by kernel_rfl) Try.func3 (by kernel_rfl)
    (of_decide_eq_true (by kernel_rfl)) (by unfold Func.isWrapper; first | (rw [if_pos (by decide +kernel)]; kernel_rfl) | (rw [if_neg (by decide +kernel)]; exact ⟨rfl, rfl⟩))
    (fun os started H enc _ => fnPairs_lifted os started H enc)
#print axioms fnPairs_holds
end Go.Proofs.Ytjgjddlfciaeeaa
