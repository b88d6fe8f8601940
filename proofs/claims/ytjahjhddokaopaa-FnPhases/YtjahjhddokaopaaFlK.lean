/-
What is proved: a float that is drawn: any float64.
-/
import Derived.Test.YtjahjhddokaopaaBlkY
import Derived.Test.YtjahjhddokaopaaFO
import Derived.Test.YtjahjhddokaopaaFloN
import Derived.Deep.DeepCutAuto
import Derived.RegionTactic
namespace Go.Proofs.Ytjahjhddokaopaa
set_option maxRecDepth 40000
open Go.ChangeShapes Go.WideShapes Go.ChangeAt Go.RowKit
set_option linter.unusedVariables false
set_option linter.unusedSimpArgs false

def itF (k : Int) : Nat := FloatKind.f64.nearest k
theorem itF_fl (k : Int) : Fl (itF k) (some (itF k)) := by
  have : rg (itF k) ≤ INF ∧ itF k < 18446744073709551616 := write_fin (.number (decide (k < 0)) k.natAbs 0) rfl
  exact ⟨this.2, .inl ⟨this.1, rfl⟩⟩
theorem conv_fl (k : Int) (w : World) : (convert 3 24 (.int .i64 k)).run Try.prog w = .ok (.float .f64 (itF k)) w := by kernel_rfl
theorem neg_fl (x : Nat) (w : World) : Sem.run Try.prog (Op.unary UnOp.neg (Value.float .f64 x)) w = .ok (.float .f64 (x ^^^ 2 ^ 63)) w := rfl
theorem fl_ten : Fl 4621819117588971520 (some 4621819117588971520) := ⟨by decide, .inl ⟨by decide, rfl⟩⟩
theorem mul_huge (w : World) : (binOp .mul 24 (.float .f64 9214871658872686752) (.float .f64 4621819117588971520)).run Try.prog w = .ok (.float .f64 9218868437227405312) w := by kernel_rfl
theorem mul_huge2 (w : World) : (binOp .mul 24 (.float .f64 18438243695727462560) (.float .f64 4621819117588971520)).run Try.prog w = .ok (.float .f64 18442240474082181120) w := by kernel_rfl
theorem xor_lt {x : Nat} (h : x < 18446744073709551616) : x ^^^ 2 ^ 63 < 18446744073709551616 := Nat.xor_lt_two_pow (n := 64) h (by decide)
set_option maxHeartbeats 400000 in
theorem l1None_fl (w : World) : Calls Try.prog 40 #[] w fun e w' => ∃ r n, e = .returned (.float .f64 r) ∧ Fl r none ∧ w' = w.drewN n := by
  have e0 : opO .quo (some 0) (some 0) = none := by kernel_rfl
  go_enter Try.func40, Try.ntmps40
  go_wp2_with (first
    | (refine list_fop .quo rfl 24 24 (.tmp 2) (.tmp 3) (by rfl) (by rfl) (by rfl) (by rfl) fl_zero fl_zero ?_; intro r n hr))
  go_ret
  rw [e0] at hr
  exact ⟨r, n, rfl, hr, rfl⟩
def isFl : Value → Bool
  | .float .f64 x => decide (x < 18446744073709551616)
  | _ => false
theorem pickedF {w : World} {b : Nat} {L : List Value} (h : Blk w b L) (hL : L.all isFl = true) (j : Nat) (hj : j < L.length) : ∃ x, x < 18446744073709551616 ∧ w.cell? ⟨b, j, none⟩ = some (.float .f64 x) := by
  have h1 := h.2.2 j _ (List.getElem?_eq_getElem hj)
  have h2 := List.all_eq_true.1 hL _ (List.getElem_mem hj)
  generalize L[j] = v at h1 h2
  unfold isFl at h2
  split at h2
  · exact ⟨_, of_decide_eq_true h2, h1⟩
  · cases h2
theorem litF : ((#[.float .f64 0, .float .f64 9223372036854775808, .float .f64 4602678819172646912, .float .f64 13826050856027422720, .float .f64 4609434218613702656, .float .f64 4612811918334230528, .float .f64 13836183955189006336, .float .f64 4831355200913801216, .float .f64 1, .float .f64 4503599627370496, .float .f64 5183643170655547384, .float .f64 4039728865751334912, .float .f64 9214871658872686752, .float .f64 9218868437227405312, .float .f64 18442240474082181120, .float .f64 4591870180066957722] : Array Value).toList).all isFl = true := by decide
set_option maxRecDepth 20000 in
set_option maxHeartbeats 8000000 in
theorem float_any {r : Nat} {s : Option Addr} {n c p : Nat} {w : World} (h : Hid (Rd w r s n c p)) :
    Calls Try.prog 35 #[.pointer (some ⟨r, 0, none⟩)] w fun e w' => ∃ (x : Nat) (p' : Nat), e = .returned (.float .f64 x) ∧ x < 18446744073709551616 ∧ Rd w' r s n c p' ∧ Beside r w w' := by
  have zr : r < w.heap.size := h.out.1
  have HR : Hid (Rd w r s n c p) := h
  have HS : Hid (Beside r w w) := Beside.of (Below.refl _ _)
  clear h
  go_enter Try.func35, Try.ntmps35
  go_wp2_with fail
  refine (below_any 9 (HR.out.below (by repeat (first | with_reducible exact Below.refl _ _ | with_reducible refine Below.setCell ?_ (by first | omega | (simp; done) | (simp; omega)) _ | with_reducible refine bDrewN ?_ _ | with_reducible refine Below.drew ?_ | with_reducible refine Below.alloc ?_ (by first | omega | (simp; done) | (simp; omega)) _)))).mono ?_
  rintro e w1 ⟨kk, pk, rfl, kk0, kk1, kk2, R_, b_⟩
  have sz_ : w.heap.size ≤ w.heap.size := HS.out.2.2.2.1
  have zr_ : r < w.heap.size := HR.out.1
  have bb : Beside r w w1 := (Beside.of (show Below w.heap.size w _ from (by repeat (first | with_reducible exact Below.refl _ _ | with_reducible refine Below.setCell ?_ (by first | omega | (simp; done) | (simp; omega)) _ | with_reducible refine bDrewN ?_ _ | with_reducible refine Below.drew ?_ | with_reducible refine Below.alloc ?_ (by first | omega | (simp; done) | (simp; omega)) _)))).trans b_
  replace HS : Hid (Beside r w w1) := HS.out.trans bb
  replace HR : Hid (Rd w1 r s n c pk) := R_
  clear R_
  clear bb b_ sz_ zr_ 
  clear kk1 kk2
  by_cases e0 : kk = 0
  case pos =>
    subst e0
    go_wp2_with fail
    refine (l1None_fl _).mono ?_
    rintro e w9 ⟨x, q, rfl, hx, hw⟩
    have b9 : Below w1.heap.size w1 w9 := by rw [hw]; exact (by repeat (first | with_reducible exact Below.refl _ _ | with_reducible refine Below.setCell ?_ (by first | omega | (simp; done) | (simp; omega)) _ | with_reducible refine bDrewN ?_ _ | with_reducible refine Below.drew ?_ | with_reducible refine Below.alloc ?_ (by first | omega | (simp; done) | (simp; omega)) _))
    have sB := HS.out.2.2.2.1
    have zr9 := HR.out.1
    have HR9 : Hid (Rd w9 r s n c pk) := HR.out.below b9
    have HS9 : Hid (Beside r w w9) := HS.out.trans (Beside.of b9)
    clear hw
    go_wp2
    go_ret
    exact ⟨x, pk, rfl, hx.1, HR9.out, HS9.out⟩
  have ne0 : (kk == 0) = false := by simpa using e0
  by_cases e1 : kk = 1
  case pos =>
    subst e1
    have hn1 := neg_fl 0
    have hn2 := neg_fl 9214871658872686752
    have hm1 := mul_huge
    have hm2 := mul_huge2
    have x1 : (0 : Nat) ^^^ 2 ^ 63 = 9223372036854775808 := by decide
    have x2 : (9214871658872686752 : Nat) ^^^ 2 ^ 63 = 18438243695727462560 := by decide
    rw [x1] at hn1
    rw [x2] at hn2
    go_wp2_with fail
    refine (below_any 16 (HR.out.below (by repeat (first | with_reducible exact Below.refl _ _ | with_reducible refine Below.setCell ?_ (by first | omega | (simp; done) | (simp; omega)) _ | with_reducible refine bDrewN ?_ _ | with_reducible refine Below.drew ?_ | with_reducible refine Below.alloc ?_ (by first | omega | (simp; done) | (simp; omega)) _)))).mono ?_
    rintro e w2 ⟨j, pj, rfl, j0, j1, j2, R_, b_⟩
    have j3 : j < 16 := by omega
    clear j1 j2
    obtain ⟨jn, rfl⟩ : ∃ jn : Nat, j = jn := ⟨j.toNat, by omega⟩
    have j4 : jn < 16 := by omega
    have zr_ := HR.out.1
    have sB := HS.out.2.2.2.1
    have bb : Beside r w1 w2 := (Beside.of (show Below w1.heap.size w1 _ from (by repeat (first | with_reducible exact Below.refl _ _ | with_reducible refine Below.setCell ?_ (by first | omega | (simp; done) | (simp; omega)) _ | with_reducible refine bDrewN ?_ _ | with_reducible refine Below.drew ?_ | with_reducible refine Below.alloc ?_ (by first | omega | (simp; done) | (simp; omega)) _)))).trans b_
    have HS9 := HS.out.trans bb
    have BK := (Blk.new w1 (#[.float .f64 0, .float .f64 9223372036854775808, .float .f64 4602678819172646912, .float .f64 13826050856027422720, .float .f64 4609434218613702656, .float .f64 4612811918334230528, .float .f64 13836183955189006336, .float .f64 4831355200913801216, .float .f64 1, .float .f64 4503599627370496, .float .f64 5183643170655547384, .float .f64 4039728865751334912, .float .f64 9214871658872686752, .float .f64 9218868437227405312, .float .f64 18442240474082181120, .float .f64 4591870180066957722] : Array Value) 24).beside b_ (by omega)
    obtain ⟨x, hx, hc⟩ := pickedF BK litF jn (by simpa using j4)
    have j5 : ((jn : Nat) : Int) < 16 := by omega
    clear BK bb b_
    go_wp2
    go_ret
    exact ⟨x, pj, rfl, hx, R_, HS9⟩
  have ne1 : (kk == 1) = false := by simpa using e1
  by_cases e2 : kk = 2
  case pos =>
    subst e2
    go_wp2_with fail
    refine (word_any (HR.out.below (by repeat (first | with_reducible exact Below.refl _ _ | with_reducible refine Below.setCell ?_ (by first | omega | (simp; done) | (simp; omega)) _ | with_reducible refine bDrewN ?_ _ | with_reducible refine Below.drew ?_ | with_reducible refine Below.alloc ?_ (by first | omega | (simp; done) | (simp; omega)) _)))).mono ?_
    rintro e w2 ⟨x, px, rfl, xw, R_, b_⟩
    have sz_ : w.heap.size ≤ w1.heap.size := HS.out.2.2.2.1
    have zr_ : r < w1.heap.size := HR.out.1
    have bb : Beside r w1 w2 := (Beside.of (show Below w1.heap.size w1 _ from (by repeat (first | with_reducible exact Below.refl _ _ | with_reducible refine Below.setCell ?_ (by first | omega | (simp; done) | (simp; omega)) _ | with_reducible refine bDrewN ?_ _ | with_reducible refine Below.drew ?_ | with_reducible refine Below.alloc ?_ (by first | omega | (simp; done) | (simp; omega)) _)))).trans b_
    replace HS : Hid (Beside r w w2) := HS.out.trans bb
    replace HR : Hid (Rd w2 r s n c px) := R_
    clear R_
    clear bb b_ sz_ zr_ 
    obtain ⟨xw0, xw1⟩ := wf_u64 xw
    obtain ⟨b, rfl⟩ : ∃ b : Nat, x = (b : Int) := ⟨x.toNat, by omega⟩
    clear xw
    go_wp2_with fail
    refine (specFloatOf_any b (by omega) _).mono ?_
    rintro e w9 ⟨f, rfl, hf, q, hw⟩
    have b9 : Below w2.heap.size w2 w9 := by rw [hw]; exact (by repeat (first | with_reducible exact Below.refl _ _ | with_reducible refine Below.setCell ?_ (by first | omega | (simp; done) | (simp; omega)) _ | with_reducible refine bDrewN ?_ _ | with_reducible refine Below.drew ?_ | with_reducible refine Below.alloc ?_ (by first | omega | (simp; done) | (simp; omega)) _))
    have sB := HS.out.2.2.2.1
    have zr9 := HR.out.1
    have HR9 : Hid (Rd w9 r s n c px) := HR.out.below b9
    have HS9 : Hid (Beside r w w9) := HS.out.trans (Beside.of b9)
    clear hw
    go_wp2
    go_ret
    exact ⟨f, px, rfl, (by rcases hf with ⟨rfl, -⟩ | ⟨-, -, hf⟩; exact (by omega); exact hf), HR9.out, HS9.out⟩
  have ne2 : (kk == 2) = false := by simpa using e2
  by_cases e3 : kk = 3
  case pos =>
    subst e3
    go_wp2_with fail
    refine (below_any 1000 (HR.out.below (by repeat (first | with_reducible exact Below.refl _ _ | with_reducible refine Below.setCell ?_ (by first | omega | (simp; done) | (simp; omega)) _ | with_reducible refine bDrewN ?_ _ | with_reducible refine Below.drew ?_ | with_reducible refine Below.alloc ?_ (by first | omega | (simp; done) | (simp; omega)) _)))).mono ?_
    rintro e w2 ⟨k, pk2, rfl, k0, k1, k2, R_, b_⟩
    have sz_ : w.heap.size ≤ w1.heap.size := HS.out.2.2.2.1
    have zr_ : r < w1.heap.size := HR.out.1
    have bb : Beside r w1 w2 := (Beside.of (show Below w1.heap.size w1 _ from (by repeat (first | with_reducible exact Below.refl _ _ | with_reducible refine Below.setCell ?_ (by first | omega | (simp; done) | (simp; omega)) _ | with_reducible refine bDrewN ?_ _ | with_reducible refine Below.drew ?_ | with_reducible refine Below.alloc ?_ (by first | omega | (simp; done) | (simp; omega)) _)))).trans b_
    replace HS : Hid (Beside r w w2) := HS.out.trans bb
    replace HR : Hid (Rd w2 r s n c pk2) := R_
    clear R_
    clear bb b_ sz_ zr_ 
    clear k1 k2
    have cv := conv_fl k
    obtain ⟨x, m, hrun, hx⟩ := fl_run (P := Try.prog) (f := .quo) rfl 24 (itF_fl k) fl_ten w2
    have hn := neg_fl x
    go_wp2
    go_ret
    exact ⟨x ^^^ 2 ^ 63, pk2, rfl, (xor_lt hx.1), Rd.below' HR.out (show Below (r + 1) w2 _ from (by repeat (first | with_reducible exact Below.refl _ _ | with_reducible refine Below.setCell ?_ (by first | omega | (simp; done) | (simp; omega)) _ | with_reducible refine bDrewN ?_ _ | with_reducible refine Below.drew ?_ | with_reducible refine Below.alloc ?_ (by first | omega | (simp; done) | (simp; omega)) _))), HS.out.onB (show Below w.heap.size w2 _ from (by repeat (first | with_reducible exact Below.refl _ _ | with_reducible refine Below.setCell ?_ (by first | omega | (simp; done) | (simp; omega)) _ | with_reducible refine bDrewN ?_ _ | with_reducible refine Below.drew ?_ | with_reducible refine Below.alloc ?_ (by first | omega | (simp; done) | (simp; omega)) _)))⟩
  have ne3 : (kk == 3) = false := by simpa using e3
  go_wp2_with fail
  refine (below_any 1000 (HR.out.below (by repeat (first | with_reducible exact Below.refl _ _ | with_reducible refine Below.setCell ?_ (by first | omega | (simp; done) | (simp; omega)) _ | with_reducible refine bDrewN ?_ _ | with_reducible refine Below.drew ?_ | with_reducible refine Below.alloc ?_ (by first | omega | (simp; done) | (simp; omega)) _)))).mono ?_
  rintro e w2 ⟨k, pk2, rfl, k0, k1, k2, R_, b_⟩
  have sz_ : w.heap.size ≤ w1.heap.size := HS.out.2.2.2.1
  have zr_ : r < w1.heap.size := HR.out.1
  have bb : Beside r w1 w2 := (Beside.of (show Below w1.heap.size w1 _ from (by repeat (first | with_reducible exact Below.refl _ _ | with_reducible refine Below.setCell ?_ (by first | omega | (simp; done) | (simp; omega)) _ | with_reducible refine bDrewN ?_ _ | with_reducible refine Below.drew ?_ | with_reducible refine Below.alloc ?_ (by first | omega | (simp; done) | (simp; omega)) _)))).trans b_
  replace HS : Hid (Beside r w w2) := HS.out.trans bb
  replace HR : Hid (Rd w2 r s n c pk2) := R_
  clear R_
  clear bb b_ sz_ zr_ 
  clear k1 k2
  have cv := conv_fl k
  obtain ⟨x, m, hrun, hx⟩ := fl_run (P := Try.prog) (f := .quo) rfl 24 (itF_fl k) fl_ten w2
  go_wp2
  go_ret
  exact ⟨x, pk2, rfl, hx.1, Rd.below' HR.out (show Below (r + 1) w2 _ from (by repeat (first | with_reducible exact Below.refl _ _ | with_reducible refine Below.setCell ?_ (by first | omega | (simp; done) | (simp; omega)) _ | with_reducible refine bDrewN ?_ _ | with_reducible refine Below.drew ?_ | with_reducible refine Below.alloc ?_ (by first | omega | (simp; done) | (simp; omega)) _))), HS.out.onB (show Below w.heap.size w2 _ from (by repeat (first | with_reducible exact Below.refl _ _ | with_reducible refine Below.setCell ?_ (by first | omega | (simp; done) | (simp; omega)) _ | with_reducible refine bDrewN ?_ _ | with_reducible refine Below.drew ?_ | with_reducible refine Below.alloc ?_ (by first | omega | (simp; done) | (simp; omega)) _)))⟩
end Go.Proofs.Ytjahjhddokaopaa
