/-
What is proved: a package-level table of plain numbers that reads as a datum holds, cell for cell, the numbers of that datum.
-/
import Derived.Test.YtmoeoepinlcmdaaDoorOpen
import Derived.Test.YtmoeoepinlcmdaaDoorCards
import Derived.Test.YtmoeoepinlcmdaaDoorTie
import Derived.Deep.DeepHandedRow
import Derived.Lib.LaidTab
import Derived.OpenVars
namespace Go.Proofs.YtmoeoepinlcmdaaDoor
set_option maxRecDepth 40000
open Go.ChangeShapes Go.WideShapes Go.ChangeAt Go.RowKit

/-- The cells of the parts of a datum, one behind the other. -/
def unreadAll {H : Type} (P : Program) (rd : TypeId → DataW H → Option (List Value)) : Nat → List (Nat × TypeId) → List (DataW H) → Option (List Value)
  | _, [], [] => some []
  | off, (o, t) :: fs, d :: ds => if o = off then (rd t d).bind fun c => if c.length = P.cellsOf t then (unreadAll P rd (off + c.length) fs ds).map (c ++ ·) else none else none
  | _, _, _ => none
/-- The cells of a datum of a type of plain numbers. -/
def unread {H : Type} (P : Program) : Nat → TypeId → DataW H → Option (List Value)
  | 0, _, _ => none
  | n + 1, t, d => match P.underlying t, d with
    | some (.int k), .lit (.int k' z) => if k' = k then some [.int k z] else none
    | some .bool, .lit (.bool b) => some [.bool b]
    | some (.float k), .lit (.float k' b) => if k' = k then some [.float k b] else none
    | some (.struct fs), .agg ds => (unreadAll P (unread P n) 0 (fs.toList.map fun f => (f.offset, f.type)) ds).bind fun c => if c.length = P.cellsOf t then some c else none
    | some (.array m e), .agg ds => (unreadAll P (unread P n) 0 ((List.range m).map fun i => (i * P.cellsOf e, e)) ds).bind fun c => if c.length = P.cellsOf t then some c else none
    | _, _ => none

section
variable {H : Type} {enc : TypeId × Value → H} {P : Program} {w : World} {base : Nat} {sp : Nat → Bool} {held : Bool}

theorem unreadAll_sound {rd : TypeId → DataW H → Option (List Value)} {fuel : Nat} (hrd : ∀ t cs d p c, DataW.trod enc P w base sp held fuel t cs = some (d, p) → rd t d = some c → cs = c) (cs : List Value) :
    ∀ (L : List (Nat × TypeId)) (xs : List (DataW H × List MemPlace)) (off : Nat) (c : List Value),
      (L.mapM fun x => DataW.trod enc P w base sp held fuel x.2 ((cs.drop x.1).take (P.cellsOf x.2))) = some xs → unreadAll P rd off L (xs.map (·.1)) = some c → (cs.drop off).take c.length = c
  | [], xs, off, c, h, k => by
    simp only [List.mapM_nil, Option.pure_def, Option.some.injEq] at h
    subst h
    simp only [List.map_nil, unreadAll, Option.some.injEq] at k
    subst k; simp
  | (o, t) :: L, xs, off, c, h, k => by
    simp only [List.mapM_cons, Option.bind_eq_bind, Option.bind_eq_some_iff, Option.pure_def, Option.some.injEq] at h
    obtain ⟨y, hy, ys, hys, rfl⟩ := h
    simp only [List.map_cons, unreadAll] at k
    by_cases ho : o = off
    · rw [if_pos ho] at k
      subst ho
      obtain ⟨c1, h1, k⟩ := Option.bind_eq_some_iff.1 k
      by_cases hl : c1.length = P.cellsOf t
      · rw [if_pos hl] at k
        obtain ⟨c2, h2, rfl⟩ := Option.map_eq_some_iff.1 k
        have e1 := hrd t _ y.1 y.2 c1 hy h1
        have e2 := unreadAll_sound hrd cs L ys (o + c1.length) c2 hys h2
        rw [List.length_append, List.take_add, hl, e1, List.drop_drop, ← hl, e2]
      · rw [if_neg hl] at k; cases k
    · rw [if_neg ho] at k; cases k

theorem unread_sound : ∀ (n : Nat) (fuel : Nat) (t : TypeId) (cs : List Value) (d : DataW H) (p : List MemPlace) (c : List Value), DataW.trod enc P w base sp held fuel t cs = some (d, p) → unread P n t d = some c → cs = c
  | 0, _, _, _, _, _, _, _, k => by simp [unread] at k
  | n + 1, 0, _, _, _, _, _, h, _ => by simp [DataW.trod] at h
  | n + 1, fuel + 1, t, cs, d, p, c, h, k => by
    unfold unread at k
    split at k
    · rename_i ki kj z hu
      split at k
      · obtain ⟨z', hc, hd, _⟩ := DataW.trod_int hu h
        simp only [Prod.mk.injEq, DataW.lit.injEq, Lit.int.injEq] at hd
        cases k
        rw [hc, hd.1.2]
      · cases k
    · rename_i b hu
      cases k
      simp only [DataW.trod, hu] at h
      split at h <;> simp_all
    · rename_i ki kj z hu
      split at k
      · cases k
        simp only [DataW.trod, hu] at h
        split at h <;> simp_all
      · cases k
    · rename_i fs ds hu
      obtain ⟨c', hc', k⟩ := Option.bind_eq_some_iff.1 k
      split at k
      · rename_i hl
        cases k
        simp only [DataW.trod, hu] at h
        split at h
        · rename_i hlen
          obtain ⟨xs, hm, hx⟩ := Option.map_eq_some_iff.1 h
          have hds : xs.map (·.1) = ds := by
            have := congrArg Prod.fst hx
            simpa using this
          rw [← hds] at hc'
          have hm' : ((fs.toList.map fun f => (f.offset, f.type)).mapM fun x => DataW.trod enc P w base sp held fuel x.2 ((cs.drop x.1).take (P.cellsOf x.2))) = some xs := by
            rw [List.mapM_map]; exact hm
          have := unreadAll_sound (fun t cs d p c => unread_sound n fuel t cs d p c) cs _ xs 0 c hm' hc'
          rw [List.drop_zero, hl, ← hlen, List.take_length] at this
          exact this
        · cases h
      · cases k
    · rename_i m e ds hu
      obtain ⟨c', hc', k⟩ := Option.bind_eq_some_iff.1 k
      split at k
      · rename_i hl
        cases k
        simp only [DataW.trod, hu] at h
        split at h
        · rename_i hlen
          obtain ⟨xs, hm, hx⟩ := Option.map_eq_some_iff.1 h
          have hds : xs.map (·.1) = ds := by
            have := congrArg Prod.fst hx
            simpa using this
          rw [← hds] at hc'
          have hm' : (((List.range m).map fun i => (i * P.cellsOf e, e)).mapM fun x => DataW.trod enc P w base sp held fuel x.2 ((cs.drop x.1).take (P.cellsOf x.2))) = some xs := by
            rw [List.mapM_map]; exact hm
          have := unreadAll_sound (fun t cs d p c => unread_sound n fuel t cs d p c) cs _ xs 0 c hm' hc'
          rw [List.drop_zero, hl, ← hlen, List.take_length] at this
          exact this
        · cases h
      · cases k
    · cases k
end

/-- FROM THE ROW's LIST TO THE CELLS: the table stands first on the list. -/
theorem cells_of_head {P : Program} {W : World} {name : String} {d : DataW Unit} {rest : List (String × DataW Unit)} {g : Nat} {t : TypeId} {c : List Value} (n : Nat)
    (hg : P.globalNamed name = some g) (hty : (P.globals[g]?).map (·.type) = some t) (hu : unread P n t d = some c) (h : laidMet P ((name, d) :: rest) W) : W.var? P name = some c.toArray := by
  obtain ⟨ps, ⟨g', t', cs, fuel, p, q, hg', ht', hvar, hd, _, _⟩, _⟩ := h
  obtain rfl := Option.some.inj (hg.symm.trans hg')
  obtain rfl := Option.some.inj (hty.symm.trans ht')
  have := unread_sound n fuel t cs.toList d p c hd hu
  rw [hvar, ← this]
theorem cells_of_tail {P : Program} {W : World} {x : String × DataW Unit} {rest : List (String × DataW Unit)} (h : laidMet P (x :: rest) W) : laidMet P rest W := by
  obtain ⟨ps, ⟨g', t', cs, fuel, p, q, hg', ht', hvar, hd, hr, rfl⟩, hn, hall⟩ := h
  exact ⟨q, hr, (List.nodup_append.1 hn).2.1, fun b off hm => hall b off (List.mem_append_right _ hm)⟩
end Go.Proofs.YtmoeoepinlcmdaaDoor
