/-
  No cell of these rows narrows 'for every input' (looked for: loops, veiled, ifaces, maps, wideKeys, modest, calm, conditions, laid).
  DERIVED. THE GIVEN ROWS OF THIS SEAT. 6 by the template 'for every input the law returns true; each argument reads behind the call as it read before'; 0 by the template 'total and deterministic' (their statements: YtkppgnpedbkbnaaTotals.lean).
  GIVEN WITH THE SEED: the statements are not yours to turn. If you find one false, say at which input.
  Laid BY PROGRAM, IN A SANDBOX (cutbox-rows.mjs): the forced cells as the released guide's own fill.sh prints them over the translation 2b284b52561ff856… (all of the seat's roots in one cut). By AI agents, Wed Nov 11 2026. No macro, syntax, notation, axiom, sorry.
-/
import Derived.Test.YtkppgnpedbkbnaaChecked
import GoSem.Claim
import GoSem.ClaimJoined
import GoSem.ClaimMapViews
import Derived.JoinedTies
import Derived.KernelRfl
namespace Go.Proofs.Ytkppgnpedbkbnaa
/- THE CELL 'sum', in the pinned program and in every row, IS THE sha256 OF THE DUMP (.gsa) THAT YtkppgnpedbkbnaaProg.lean LOADS. Nothing in Lean hashes anything: it is a label: what it is worth is what the hold of that sum in a sandbox is worth. -/
noncomputable def Try.pinned : Pinned := { name := "ytkppgnpedbkbnaa", sum := "2b284b52561ff856a2e1a6bdbc4f90a7932d599112cf637537c18690329ca859", checked := Try.checked }
namespace Rows
def none {H : Type} : Left H := { results := [], args := [] }

/-- 'laws.FnThrottled': WHATEVER THE INPUT: true; the input reads as it did. -/
def fnThrottledSpec : ChangeSpec := { name := "fnThrottled", fn := fun _ => fun
  | [d] => { results := [.lit (.bool true)], args := [d] }
  | _ => none }
def fnThrottledRow : OpenClaim := { program := "ytkppgnpedbkbnaa", sum := "2b284b52561ff856a2e1a6bdbc4f90a7932d599112cf637537c18690329ca859", func := "loop.example/g00062/laws.FnThrottled", spec := "fnThrottled", unfollowed := true, recurses := true, apart := false }
def FnThrottledSaid : Prop := fnThrottledRow.holds Try.pinned (OpenSpec.ofChange fnThrottledSpec)

/-- ITS FALSE NEIGHBOUR: 'it returns false'. Refute it at one input. -/
def fnThrottledWrong : ChangeSpec := { name := "fnThrottled", fn := fun _ => fun
  | [d] => { results := [.lit (.bool false)], args := [d] }
  | _ => none }
def FnThrottledWrongFalsely : Prop := fnThrottledRow.holds Try.pinned (OpenSpec.ofChange fnThrottledWrong)

/-- 'laws.FnBled': WHATEVER THE INPUT: true; the input reads as it did. -/
def fnBledSpec : ChangeSpec := { name := "fnBled", fn := fun _ => fun
  | [d] => { results := [.lit (.bool true)], args := [d] }
  | _ => none }
def fnBledRow : OpenClaim := { program := "ytkppgnpedbkbnaa", sum := "2b284b52561ff856a2e1a6bdbc4f90a7932d599112cf637537c18690329ca859", func := "loop.example/g00062/laws.FnBled", spec := "fnBled", apart := false }
def FnBledSaid : Prop := fnBledRow.holds Try.pinned (OpenSpec.ofChange fnBledSpec)

/-- ITS FALSE NEIGHBOUR: 'it returns false'. Refute it at one input. -/
def fnBledWrong : ChangeSpec := { name := "fnBled", fn := fun _ => fun
  | [d] => { results := [.lit (.bool false)], args := [d] }
  | _ => none }
def FnBledWrongFalsely : Prop := fnBledRow.holds Try.pinned (OpenSpec.ofChange fnBledWrong)

/-- 'laws.FnExactAlong': WHATEVER THE INPUT: true; the input reads as it did. -/
def fnExactAlongSpec : ChangeSpec := { name := "fnExactAlong", fn := fun _ => fun
  | [d1, d2] => { results := [.lit (.bool true)], args := [d1, d2] }
  | _ => none }
def fnExactAlongRow : OpenClaim := { program := "ytkppgnpedbkbnaa", sum := "2b284b52561ff856a2e1a6bdbc4f90a7932d599112cf637537c18690329ca859", func := "loop.example/g00062/laws.FnExactAlong", spec := "fnExactAlong", unfollowed := true, recurses := true, apart := false }
def FnExactAlongSaid : Prop := fnExactAlongRow.holds Try.pinned (OpenSpec.ofChange fnExactAlongSpec)

/-- ITS FALSE NEIGHBOUR: 'it returns false'. Refute it at one input. -/
def fnExactAlongWrong : ChangeSpec := { name := "fnExactAlong", fn := fun _ => fun
  | [d1, d2] => { results := [.lit (.bool false)], args := [d1, d2] }
  | _ => none }
def FnExactAlongWrongFalsely : Prop := fnExactAlongRow.holds Try.pinned (OpenSpec.ofChange fnExactAlongWrong)

/-- 'laws.FnExactSteamOf': WHATEVER THE INPUT: true; the input reads as it did. -/
def fnExactSteamOfSpec : ChangeSpec := { name := "fnExactSteamOf", fn := fun _ => fun
  | [d1, d2] => { results := [.lit (.bool true)], args := [d1, d2] }
  | _ => none }
def fnExactSteamOfRow : OpenClaim := { program := "ytkppgnpedbkbnaa", sum := "2b284b52561ff856a2e1a6bdbc4f90a7932d599112cf637537c18690329ca859", func := "loop.example/g00062/laws.FnExactSteamOf", spec := "fnExactSteamOf", unfollowed := true, recurses := true, apart := false }
def FnExactSteamOfSaid : Prop := fnExactSteamOfRow.holds Try.pinned (OpenSpec.ofChange fnExactSteamOfSpec)

/-- ITS FALSE NEIGHBOUR: 'it returns false'. Refute it at one input. -/
def fnExactSteamOfWrong : ChangeSpec := { name := "fnExactSteamOf", fn := fun _ => fun
  | [d1, d2] => { results := [.lit (.bool false)], args := [d1, d2] }
  | _ => none }
def FnExactSteamOfWrongFalsely : Prop := fnExactSteamOfRow.holds Try.pinned (OpenSpec.ofChange fnExactSteamOfWrong)

/-- 'laws.FnExactThrottle': WHATEVER THE INPUT: true; the input reads as it did. -/
def fnExactThrottleSpec : ChangeSpec := { name := "fnExactThrottle", fn := fun _ => fun
  | [d1, d2, d3] => { results := [.lit (.bool true)], args := [d1, d2, d3] }
  | _ => none }
def fnExactThrottleRow : OpenClaim := { program := "ytkppgnpedbkbnaa", sum := "2b284b52561ff856a2e1a6bdbc4f90a7932d599112cf637537c18690329ca859", func := "loop.example/g00062/laws.FnExactThrottle", spec := "fnExactThrottle", unfollowed := true, recurses := true, apart := false }
def FnExactThrottleSaid : Prop := fnExactThrottleRow.holds Try.pinned (OpenSpec.ofChange fnExactThrottleSpec)

/-- ITS FALSE NEIGHBOUR: 'it returns false'. Refute it at one input. -/
def fnExactThrottleWrong : ChangeSpec := { name := "fnExactThrottle", fn := fun _ => fun
  | [d1, d2, d3] => { results := [.lit (.bool false)], args := [d1, d2, d3] }
  | _ => none }
def FnExactThrottleWrongFalsely : Prop := fnExactThrottleRow.holds Try.pinned (OpenSpec.ofChange fnExactThrottleWrong)

/-- 'laws.FnExactBleed': WHATEVER THE INPUT: true; the input reads as it did. -/
def fnExactBleedSpec : ChangeSpec := { name := "fnExactBleed", fn := fun _ => fun
  | [d1, d2] => { results := [.lit (.bool true)], args := [d1, d2] }
  | _ => none }
def fnExactBleedRow : OpenClaim := { program := "ytkppgnpedbkbnaa", sum := "2b284b52561ff856a2e1a6bdbc4f90a7932d599112cf637537c18690329ca859", func := "loop.example/g00062/laws.FnExactBleed", spec := "fnExactBleed", apart := false }
def FnExactBleedSaid : Prop := fnExactBleedRow.holds Try.pinned (OpenSpec.ofChange fnExactBleedSpec)

/-- ITS FALSE NEIGHBOUR: 'it returns false'. Refute it at one input. -/
def fnExactBleedWrong : ChangeSpec := { name := "fnExactBleed", fn := fun _ => fun
  | [d1, d2] => { results := [.lit (.bool false)], args := [d1, d2] }
  | _ => none }
def FnExactBleedWrongFalsely : Prop := fnExactBleedRow.holds Try.pinned (OpenSpec.ofChange fnExactBleedWrong)

/- THE SECOND FORM. 'bulk': how many values and letters a reading holds, each counted each time it is reached (what is shared counts as often as it is met; a slice's spare places count too). A statement '..UptoSaid' is the law's where the arguments, and the package variables that the reading takes, are together of bulk at most 1048576: NARROWER than '..Said'. Prove '..Said' where nothing that the law and all that it calls make is longer than what came in: it says more and counts as full. Else prove '..UptoSaid'. A law counts once. -/
mutual
def uptoBulk {H : Type} : DataW H → Nat
  | .lit (.string bytes) => bytes.length + 1
  | .lit _ => 1
  | .nil => 1
  | .ptr d => uptoBulk d + 1
  | .slice elems spare => uptoBulkAll elems + uptoBulkAll spare + 1
  | .agg parts => uptoBulkAll parts + 1
  | .iface _ d => uptoBulk d + 1
  | .map entries => uptoBulkEntries entries + 1
  | .held _ => 1
def uptoBulkAll {H : Type} : List (DataW H) → Nat
  | [] => 0
  | d :: r => uptoBulk d + uptoBulkAll r
def uptoBulkEntries {H : Type} : List (Lit × DataW H) → Nat
  | [] => 0
  | x :: r => uptoBulkEntry x + uptoBulkEntries r
def uptoBulkEntry {H : Type} : Lit × DataW H → Nat
  | (.string bytes, d) => bytes.length + uptoBulk d + 1
  | (_, d) => uptoBulk d + 1
 end
def uptoSmall : (H : Type) → List (DataW H) → Bool := fun _ ds => decide (uptoBulkAll ds ≤ 1048576)
def OpenSpec.upto (s : _root_.Go.ChangeSpec) : _root_.Go.OpenSpec := { _root_.Go.OpenSpec.ofChange s with cond := some uptoSmall }

/-- 'laws.FnThrottled', WHERE WHAT IT READS IS OF BULK AT MOST 1048576: true; the input reads as it did. -/
def fnThrottledUptoRow : OpenClaim := { program := "ytkppgnpedbkbnaa", sum := "2b284b52561ff856a2e1a6bdbc4f90a7932d599112cf637537c18690329ca859", func := "loop.example/g00062/laws.FnThrottled", spec := "fnThrottled", unfollowed := true, recurses := true, apart := false, narrowed := true }
def FnThrottledUptoSaid : Prop := fnThrottledUptoRow.holds Try.pinned (OpenSpec.upto fnThrottledSpec)

/-- 'laws.FnBled', WHERE WHAT IT READS IS OF BULK AT MOST 1048576: true; the input reads as it did. -/
def fnBledUptoRow : OpenClaim := { program := "ytkppgnpedbkbnaa", sum := "2b284b52561ff856a2e1a6bdbc4f90a7932d599112cf637537c18690329ca859", func := "loop.example/g00062/laws.FnBled", spec := "fnBled", apart := false, narrowed := true }
def FnBledUptoSaid : Prop := fnBledUptoRow.holds Try.pinned (OpenSpec.upto fnBledSpec)

/-- 'laws.FnExactAlong', WHERE WHAT IT READS IS OF BULK AT MOST 1048576: true; the input reads as it did. -/
def fnExactAlongUptoRow : OpenClaim := { program := "ytkppgnpedbkbnaa", sum := "2b284b52561ff856a2e1a6bdbc4f90a7932d599112cf637537c18690329ca859", func := "loop.example/g00062/laws.FnExactAlong", spec := "fnExactAlong", unfollowed := true, recurses := true, apart := false, narrowed := true }
def FnExactAlongUptoSaid : Prop := fnExactAlongUptoRow.holds Try.pinned (OpenSpec.upto fnExactAlongSpec)

/-- 'laws.FnExactSteamOf', WHERE WHAT IT READS IS OF BULK AT MOST 1048576: true; the input reads as it did. -/
def fnExactSteamOfUptoRow : OpenClaim := { program := "ytkppgnpedbkbnaa", sum := "2b284b52561ff856a2e1a6bdbc4f90a7932d599112cf637537c18690329ca859", func := "loop.example/g00062/laws.FnExactSteamOf", spec := "fnExactSteamOf", unfollowed := true, recurses := true, apart := false, narrowed := true }
def FnExactSteamOfUptoSaid : Prop := fnExactSteamOfUptoRow.holds Try.pinned (OpenSpec.upto fnExactSteamOfSpec)

/-- 'laws.FnExactThrottle', WHERE WHAT IT READS IS OF BULK AT MOST 1048576: true; the input reads as it did. -/
def fnExactThrottleUptoRow : OpenClaim := { program := "ytkppgnpedbkbnaa", sum := "2b284b52561ff856a2e1a6bdbc4f90a7932d599112cf637537c18690329ca859", func := "loop.example/g00062/laws.FnExactThrottle", spec := "fnExactThrottle", unfollowed := true, recurses := true, apart := false, narrowed := true }
def FnExactThrottleUptoSaid : Prop := fnExactThrottleUptoRow.holds Try.pinned (OpenSpec.upto fnExactThrottleSpec)

/-- 'laws.FnExactBleed', WHERE WHAT IT READS IS OF BULK AT MOST 1048576: true; the input reads as it did. -/
def fnExactBleedUptoRow : OpenClaim := { program := "ytkppgnpedbkbnaa", sum := "2b284b52561ff856a2e1a6bdbc4f90a7932d599112cf637537c18690329ca859", func := "loop.example/g00062/laws.FnExactBleed", spec := "fnExactBleed", apart := false, narrowed := true }
def FnExactBleedUptoSaid : Prop := fnExactBleedUptoRow.holds Try.pinned (OpenSpec.upto fnExactBleedSpec)

end Rows
end Go.Proofs.Ytkppgnpedbkbnaa
