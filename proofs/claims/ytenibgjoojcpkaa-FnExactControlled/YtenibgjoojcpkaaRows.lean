/-
  No cell of these rows narrows 'for every input' (looked for: loops, veiled, ifaces, maps, wideKeys, modest, calm, conditions, laid).
  DERIVED. THE GIVEN ROWS OF THIS SEAT. 6 by the template 'for every input the law returns true; each argument reads behind the call as it read before'; 0 by the template 'total and deterministic' (their statements: YtenibgjoojcpkaaTotals.lean).
  GIVEN WITH THE SEED: the statements are not yours to turn. If you find one false, say at which input.
  Laid BY PROGRAM, IN A SANDBOX (cutbox-rows.mjs): the forced cells as the released guide's own fill.sh prints them over the translation 31bfb0a964cf1645… (all of the seat's roots in one cut). By AI agents, Wed Nov 11 2026. No macro, syntax, notation, axiom, sorry.
-/
import Derived.Test.YtenibgjoojcpkaaChecked
import GoSem.Claim
import GoSem.ClaimJoined
import GoSem.ClaimMapViews
import Derived.JoinedTies
import Derived.KernelRfl
namespace Go.Proofs.Ytenibgjoojcpkaa
/- THE CELL 'sum', in the pinned program and in every row, IS THE sha256 OF THE DUMP (.gsa) THAT YtenibgjoojcpkaaProg.lean LOADS. Nothing in Lean hashes anything: it is a label: what it is worth is what the hold of that sum in a sandbox is worth. -/
noncomputable def Try.pinned : Pinned := { name := "ytenibgjoojcpkaa", sum := "31bfb0a964cf164529b0e1de1c4462c03899594174a8846640e5d48f9627ceb8", checked := Try.checked }
namespace Rows
def none {H : Type} : Left H := { results := [], args := [] }

/-- 'laws.FnExactControlled': WHATEVER THE INPUT: true; the input reads as it did. -/
def fnExactControlledSpec : ChangeSpec := { name := "fnExactControlled", fn := fun _ => fun
  | [d1, d2, d3, d4] => { results := [.lit (.bool true)], args := [d1, d2, d3, d4] }
  | _ => none }
def fnExactControlledRow : OpenClaim := { program := "ytenibgjoojcpkaa", sum := "31bfb0a964cf164529b0e1de1c4462c03899594174a8846640e5d48f9627ceb8", func := "loop.example/g00062/laws.FnExactControlled", spec := "fnExactControlled", apart := false }
def FnExactControlledSaid : Prop := fnExactControlledRow.holds Try.pinned (OpenSpec.ofChange fnExactControlledSpec)

/-- ITS FALSE NEIGHBOUR: 'it returns false'. Refute it at one input. -/
def fnExactControlledWrong : ChangeSpec := { name := "fnExactControlled", fn := fun _ => fun
  | [d1, d2, d3, d4] => { results := [.lit (.bool false)], args := [d1, d2, d3, d4] }
  | _ => none }
def FnExactControlledWrongFalsely : Prop := fnExactControlledRow.holds Try.pinned (OpenSpec.ofChange fnExactControlledWrong)

/-- 'laws.FnExactExpand': WHATEVER THE INPUT: true; the input reads as it did. -/
def fnExactExpandSpec : ChangeSpec := { name := "fnExactExpand", fn := fun _ => fun
  | [d1, d2] => { results := [.lit (.bool true)], args := [d1, d2] }
  | _ => none }
def fnExactExpandRow : OpenClaim := { program := "ytenibgjoojcpkaa", sum := "31bfb0a964cf164529b0e1de1c4462c03899594174a8846640e5d48f9627ceb8", func := "loop.example/g00062/laws.FnExactExpand", spec := "fnExactExpand", apart := false }
def FnExactExpandSaid : Prop := fnExactExpandRow.holds Try.pinned (OpenSpec.ofChange fnExactExpandSpec)

/-- ITS FALSE NEIGHBOUR: 'it returns false'. Refute it at one input. -/
def fnExactExpandWrong : ChangeSpec := { name := "fnExactExpand", fn := fun _ => fun
  | [d1, d2] => { results := [.lit (.bool false)], args := [d1, d2] }
  | _ => none }
def FnExactExpandWrongFalsely : Prop := fnExactExpandRow.holds Try.pinned (OpenSpec.ofChange fnExactExpandWrong)

/-- 'laws.FnExactBleed': WHATEVER THE INPUT: true; the input reads as it did. -/
def fnExactBleedSpec : ChangeSpec := { name := "fnExactBleed", fn := fun _ => fun
  | [d1, d2] => { results := [.lit (.bool true)], args := [d1, d2] }
  | _ => none }
def fnExactBleedRow : OpenClaim := { program := "ytenibgjoojcpkaa", sum := "31bfb0a964cf164529b0e1de1c4462c03899594174a8846640e5d48f9627ceb8", func := "loop.example/g00062/laws.FnExactBleed", spec := "fnExactBleed", apart := false }
def FnExactBleedSaid : Prop := fnExactBleedRow.holds Try.pinned (OpenSpec.ofChange fnExactBleedSpec)

/-- ITS FALSE NEIGHBOUR: 'it returns false'. Refute it at one input. -/
def fnExactBleedWrong : ChangeSpec := { name := "fnExactBleed", fn := fun _ => fun
  | [d1, d2] => { results := [.lit (.bool false)], args := [d1, d2] }
  | _ => none }
def FnExactBleedWrongFalsely : Prop := fnExactBleedRow.holds Try.pinned (OpenSpec.ofChange fnExactBleedWrong)

/-- 'laws.FnExactTurnings': WHATEVER THE INPUT: true; the input reads as it did. -/
def fnExactTurningsSpec : ChangeSpec := { name := "fnExactTurnings", fn := fun _ => fun
  | [d] => { results := [.lit (.bool true)], args := [d] }
  | _ => none }
def fnExactTurningsRow : OpenClaim := { program := "ytenibgjoojcpkaa", sum := "31bfb0a964cf164529b0e1de1c4462c03899594174a8846640e5d48f9627ceb8", func := "loop.example/g00062/laws.FnExactTurnings", spec := "fnExactTurnings", apart := false }
def FnExactTurningsSaid : Prop := fnExactTurningsRow.holds Try.pinned (OpenSpec.ofChange fnExactTurningsSpec)

/-- ITS FALSE NEIGHBOUR: 'it returns false'. Refute it at one input. -/
def fnExactTurningsWrong : ChangeSpec := { name := "fnExactTurnings", fn := fun _ => fun
  | [d] => { results := [.lit (.bool false)], args := [d] }
  | _ => none }
def FnExactTurningsWrongFalsely : Prop := fnExactTurningsRow.holds Try.pinned (OpenSpec.ofChange fnExactTurningsWrong)

/-- 'laws.FnExactRain': WHATEVER THE INPUT: true; the input reads as it did. -/
def fnExactRainSpec : ChangeSpec := { name := "fnExactRain", fn := fun _ => fun
  | [d] => { results := [.lit (.bool true)], args := [d] }
  | _ => none }
def fnExactRainRow : OpenClaim := { program := "ytenibgjoojcpkaa", sum := "31bfb0a964cf164529b0e1de1c4462c03899594174a8846640e5d48f9627ceb8", func := "loop.example/g00062/laws.FnExactRain", spec := "fnExactRain", apart := false }
def FnExactRainSaid : Prop := fnExactRainRow.holds Try.pinned (OpenSpec.ofChange fnExactRainSpec)

/-- ITS FALSE NEIGHBOUR: 'it returns false'. Refute it at one input. -/
def fnExactRainWrong : ChangeSpec := { name := "fnExactRain", fn := fun _ => fun
  | [d] => { results := [.lit (.bool false)], args := [d] }
  | _ => none }
def FnExactRainWrongFalsely : Prop := fnExactRainRow.holds Try.pinned (OpenSpec.ofChange fnExactRainWrong)

/-- 'laws.FnExactLife': WHATEVER THE INPUT: true; the input reads as it did. -/
def fnExactLifeSpec : ChangeSpec := { name := "fnExactLife", fn := fun _ => fun
  | [d1, d2] => { results := [.lit (.bool true)], args := [d1, d2] }
  | _ => none }
def fnExactLifeRow : OpenClaim := { program := "ytenibgjoojcpkaa", sum := "31bfb0a964cf164529b0e1de1c4462c03899594174a8846640e5d48f9627ceb8", func := "loop.example/g00062/laws.FnExactLife", spec := "fnExactLife", unfollowed := true, recurses := true, apart := false }
def FnExactLifeSaid : Prop := fnExactLifeRow.holds Try.pinned (OpenSpec.ofChange fnExactLifeSpec)

/-- ITS FALSE NEIGHBOUR: 'it returns false'. Refute it at one input. -/
def fnExactLifeWrong : ChangeSpec := { name := "fnExactLife", fn := fun _ => fun
  | [d1, d2] => { results := [.lit (.bool false)], args := [d1, d2] }
  | _ => none }
def FnExactLifeWrongFalsely : Prop := fnExactLifeRow.holds Try.pinned (OpenSpec.ofChange fnExactLifeWrong)

/- THE SECOND FORM. 'bulk': how many values and letters a reading holds, each counted each time it is reached (what is shared counts as often as it is met; a slice's spare places count too). A statement '..UptoSaid' is the law's where the arguments, and the package variables that the reading takes, are together of bulk at most 1048576: NARROWER than '..Said'. Prove '..Said' where nothing that the law and all that it calls make is longer than what came in: it says more and counts as full. Else prove '..UptoSaid'. A law counts once. -/
mutual
def uptoBulk {H : Type} : DataW H → Nat
  | .lit (.string bytes) => bytes.length + 1
  | .lit _ => 1
  | .nil => 1
  | .ptr d => uptoBulk d + 1
  | .slice elems spare => uptoBulkAll elems + uptoBulkAll spare + 1
  | .agg parts => uptoBulkAll parts + 1
  | .iface _ d => uptoBulk d + 1
  | .map entries => uptoBulkEntries entries + 1
  | .held _ => 1
def uptoBulkAll {H : Type} : List (DataW H) → Nat
  | [] => 0
  | d :: r => uptoBulk d + uptoBulkAll r
def uptoBulkEntries {H : Type} : List (Lit × DataW H) → Nat
  | [] => 0
  | x :: r => uptoBulkEntry x + uptoBulkEntries r
def uptoBulkEntry {H : Type} : Lit × DataW H → Nat
  | (.string bytes, d) => bytes.length + uptoBulk d + 1
  | (_, d) => uptoBulk d + 1
 end
def uptoSmall : (H : Type) → List (DataW H) → Bool := fun _ ds => decide (uptoBulkAll ds ≤ 1048576)
def OpenSpec.upto (s : _root_.Go.ChangeSpec) : _root_.Go.OpenSpec := { _root_.Go.OpenSpec.ofChange s with cond := some uptoSmall }

/-- 'laws.FnExactControlled', WHERE WHAT IT READS IS OF BULK AT MOST 1048576: true; the input reads as it did. -/
def fnExactControlledUptoRow : OpenClaim := { program := "ytenibgjoojcpkaa", sum := "31bfb0a964cf164529b0e1de1c4462c03899594174a8846640e5d48f9627ceb8", func := "loop.example/g00062/laws.FnExactControlled", spec := "fnExactControlled", apart := false, narrowed := true }
def FnExactControlledUptoSaid : Prop := fnExactControlledUptoRow.holds Try.pinned (OpenSpec.upto fnExactControlledSpec)

/-- 'laws.FnExactExpand', WHERE WHAT IT READS IS OF BULK AT MOST 1048576: true; the input reads as it did. -/
def fnExactExpandUptoRow : OpenClaim := { program := "ytenibgjoojcpkaa", sum := "31bfb0a964cf164529b0e1de1c4462c03899594174a8846640e5d48f9627ceb8", func := "loop.example/g00062/laws.FnExactExpand", spec := "fnExactExpand", apart := false, narrowed := true }
def FnExactExpandUptoSaid : Prop := fnExactExpandUptoRow.holds Try.pinned (OpenSpec.upto fnExactExpandSpec)

/-- 'laws.FnExactBleed', WHERE WHAT IT READS IS OF BULK AT MOST 1048576: true; the input reads as it did. -/
def fnExactBleedUptoRow : OpenClaim := { program := "ytenibgjoojcpkaa", sum := "31bfb0a964cf164529b0e1de1c4462c03899594174a8846640e5d48f9627ceb8", func := "loop.example/g00062/laws.FnExactBleed", spec := "fnExactBleed", apart := false, narrowed := true }
def FnExactBleedUptoSaid : Prop := fnExactBleedUptoRow.holds Try.pinned (OpenSpec.upto fnExactBleedSpec)

/-- 'laws.FnExactTurnings', WHERE WHAT IT READS IS OF BULK AT MOST 1048576: true; the input reads as it did. -/
def fnExactTurningsUptoRow : OpenClaim := { program := "ytenibgjoojcpkaa", sum := "31bfb0a964cf164529b0e1de1c4462c03899594174a8846640e5d48f9627ceb8", func := "loop.example/g00062/laws.FnExactTurnings", spec := "fnExactTurnings", apart := false, narrowed := true }
def FnExactTurningsUptoSaid : Prop := fnExactTurningsUptoRow.holds Try.pinned (OpenSpec.upto fnExactTurningsSpec)

/-- 'laws.FnExactRain', WHERE WHAT IT READS IS OF BULK AT MOST 1048576: true; the input reads as it did. -/
def fnExactRainUptoRow : OpenClaim := { program := "ytenibgjoojcpkaa", sum := "31bfb0a964cf164529b0e1de1c4462c03899594174a8846640e5d48f9627ceb8", func := "loop.example/g00062/laws.FnExactRain", spec := "fnExactRain", apart := false, narrowed := true }
def FnExactRainUptoSaid : Prop := fnExactRainUptoRow.holds Try.pinned (OpenSpec.upto fnExactRainSpec)

/-- 'laws.FnExactLife', WHERE WHAT IT READS IS OF BULK AT MOST 1048576: true; the input reads as it did. -/
def fnExactLifeUptoRow : OpenClaim := { program := "ytenibgjoojcpkaa", sum := "31bfb0a964cf164529b0e1de1c4462c03899594174a8846640e5d48f9627ceb8", func := "loop.example/g00062/laws.FnExactLife", spec := "fnExactLife", unfollowed := true, recurses := true, apart := false, narrowed := true }
def FnExactLifeUptoSaid : Prop := fnExactLifeUptoRow.holds Try.pinned (OpenSpec.upto fnExactLifeSpec)

end Rows
end Go.Proofs.Ytenibgjoojcpkaa
