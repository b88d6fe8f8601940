/-
  No cell of these rows narrows 'for every input' (looked for: loops, veiled, ifaces, maps, wideKeys, modest, calm, conditions, laid).
  DERIVED. THE GIVEN ROWS OF THIS SEAT. 6 by the template 'for every input the law returns true; each argument reads behind the call as it read before'; 0 by the template 'total and deterministic' (their statements: YthengechoaodcaaTotals.lean).
  GIVEN WITH THE SEED: the statements are not yours to turn. If you find one false, say at which input.
  Laid BY PROGRAM, IN A SANDBOX (cutbox-rows.mjs): the forced cells as the released guide's own fill.sh prints them over the translation c040b532123ffc17… (all of the seat's roots in one cut). By AI agents, Wed Nov 11 2026. No macro, syntax, notation, axiom, sorry.
-/
import Derived.Test.YthengechoaodcaaChecked
import GoSem.Claim
import GoSem.ClaimJoined
import GoSem.ClaimMapViews
import Derived.JoinedTies
import Derived.KernelRfl
namespace Go.Proofs.Ythengechoaodcaa
/- THE CELL 'sum', in the pinned program and in every row, IS THE sha256 OF THE DUMP (.gsa) THAT YthengechoaodcaaProg.lean LOADS. Nothing in Lean hashes anything: it is a label: what it is worth is what the hold of that sum in a sandbox is worth. -/
noncomputable def Try.pinned : Pinned := { name := "ythengechoaodcaa", sum := "c040b532123ffc17ba08df06ac7db49df175f23f06880a5159fc1795a89bf158", checked := Try.checked }
namespace Rows
def none {H : Type} : Left H := { results := [], args := [] }

/-- 'laws.FnExactRain': WHATEVER THE INPUT: true; the input reads as it did. -/
def fnExactRainSpec : ChangeSpec := { name := "fnExactRain", fn := fun _ => fun
  | [d] => { results := [.lit (.bool true)], args := [d] }
  | _ => none }
def fnExactRainRow : OpenClaim := { program := "ythengechoaodcaa", sum := "c040b532123ffc17ba08df06ac7db49df175f23f06880a5159fc1795a89bf158", func := "loop.example/g00062/laws.FnExactRain", spec := "fnExactRain", apart := false }
def FnExactRainSaid : Prop := fnExactRainRow.holds Try.pinned (OpenSpec.ofChange fnExactRainSpec)

/-- ITS FALSE NEIGHBOUR: 'it returns false'. Refute it at one input. -/
def fnExactRainWrong : ChangeSpec := { name := "fnExactRain", fn := fun _ => fun
  | [d] => { results := [.lit (.bool false)], args := [d] }
  | _ => none }
def FnExactRainWrongFalsely : Prop := fnExactRainRow.holds Try.pinned (OpenSpec.ofChange fnExactRainWrong)

/-- 'laws.FnSwings': WHATEVER THE INPUT: true; the input reads as it did. -/
def fnSwingsSpec : ChangeSpec := { name := "fnSwings", fn := fun _ => fun
  | [d] => { results := [.lit (.bool true)], args := [d] }
  | _ => none }
def fnSwingsRow : OpenClaim := { program := "ythengechoaodcaa", sum := "c040b532123ffc17ba08df06ac7db49df175f23f06880a5159fc1795a89bf158", func := "loop.example/g00062/laws.FnSwings", spec := "fnSwings", apart := false }
def FnSwingsSaid : Prop := fnSwingsRow.holds Try.pinned (OpenSpec.ofChange fnSwingsSpec)

/-- ITS FALSE NEIGHBOUR: 'it returns false'. Refute it at one input. -/
def fnSwingsWrong : ChangeSpec := { name := "fnSwings", fn := fun _ => fun
  | [d] => { results := [.lit (.bool false)], args := [d] }
  | _ => none }
def FnSwingsWrongFalsely : Prop := fnSwingsRow.holds Try.pinned (OpenSpec.ofChange fnSwingsWrong)

/-- 'laws.FnLifeParts': WHATEVER THE INPUT: true; the input reads as it did. -/
def fnLifePartsSpec : ChangeSpec := { name := "fnLifeParts", fn := fun _ => fun
  | [d1, d2] => { results := [.lit (.bool true)], args := [d1, d2] }
  | _ => none }
def fnLifePartsRow : OpenClaim := { program := "ythengechoaodcaa", sum := "c040b532123ffc17ba08df06ac7db49df175f23f06880a5159fc1795a89bf158", func := "loop.example/g00062/laws.FnLifeParts", spec := "fnLifeParts", unfollowed := true, recurses := true, apart := false }
def FnLifePartsSaid : Prop := fnLifePartsRow.holds Try.pinned (OpenSpec.ofChange fnLifePartsSpec)

/-- ITS FALSE NEIGHBOUR: 'it returns false'. Refute it at one input. -/
def fnLifePartsWrong : ChangeSpec := { name := "fnLifeParts", fn := fun _ => fun
  | [d1, d2] => { results := [.lit (.bool false)], args := [d1, d2] }
  | _ => none }
def FnLifePartsWrongFalsely : Prop := fnLifePartsRow.holds Try.pinned (OpenSpec.ofChange fnLifePartsWrong)

/-- 'laws.FnExactTurnings': WHATEVER THE INPUT: true; the input reads as it did. -/
def fnExactTurningsSpec : ChangeSpec := { name := "fnExactTurnings", fn := fun _ => fun
  | [d] => { results := [.lit (.bool true)], args := [d] }
  | _ => none }
def fnExactTurningsRow : OpenClaim := { program := "ythengechoaodcaa", sum := "c040b532123ffc17ba08df06ac7db49df175f23f06880a5159fc1795a89bf158", func := "loop.example/g00062/laws.FnExactTurnings", spec := "fnExactTurnings", apart := false }
def FnExactTurningsSaid : Prop := fnExactTurningsRow.holds Try.pinned (OpenSpec.ofChange fnExactTurningsSpec)

/-- ITS FALSE NEIGHBOUR: 'it returns false'. Refute it at one input. -/
def fnExactTurningsWrong : ChangeSpec := { name := "fnExactTurnings", fn := fun _ => fun
  | [d] => { results := [.lit (.bool false)], args := [d] }
  | _ => none }
def FnExactTurningsWrongFalsely : Prop := fnExactTurningsRow.holds Try.pinned (OpenSpec.ofChange fnExactTurningsWrong)

/-- 'laws.FnExactLife': WHATEVER THE INPUT: true; the input reads as it did. -/
def fnExactLifeSpec : ChangeSpec := { name := "fnExactLife", fn := fun _ => fun
  | [d1, d2] => { results := [.lit (.bool true)], args := [d1, d2] }
  | _ => none }
def fnExactLifeRow : OpenClaim := { program := "ythengechoaodcaa", sum := "c040b532123ffc17ba08df06ac7db49df175f23f06880a5159fc1795a89bf158", func := "loop.example/g00062/laws.FnExactLife", spec := "fnExactLife", unfollowed := true, recurses := true, apart := false }
def FnExactLifeSaid : Prop := fnExactLifeRow.holds Try.pinned (OpenSpec.ofChange fnExactLifeSpec)

/-- ITS FALSE NEIGHBOUR: 'it returns false'. Refute it at one input. -/
def fnExactLifeWrong : ChangeSpec := { name := "fnExactLife", fn := fun _ => fun
  | [d1, d2] => { results := [.lit (.bool false)], args := [d1, d2] }
  | _ => none }
def FnExactLifeWrongFalsely : Prop := fnExactLifeRow.holds Try.pinned (OpenSpec.ofChange fnExactLifeWrong)

/-- 'laws.FnExactAddFrac': WHATEVER THE INPUT: true; the input reads as it did. -/
def fnExactAddFracSpec : ChangeSpec := { name := "fnExactAddFrac", fn := fun _ => fun
  | [d1, d2] => { results := [.lit (.bool true)], args := [d1, d2] }
  | _ => none }
def fnExactAddFracRow : OpenClaim := { program := "ythengechoaodcaa", sum := "c040b532123ffc17ba08df06ac7db49df175f23f06880a5159fc1795a89bf158", func := "loop.example/g00062/laws.FnExactAddFrac", spec := "fnExactAddFrac", apart := false }
def FnExactAddFracSaid : Prop := fnExactAddFracRow.holds Try.pinned (OpenSpec.ofChange fnExactAddFracSpec)

/-- ITS FALSE NEIGHBOUR: 'it returns false'. Refute it at one input. -/
def fnExactAddFracWrong : ChangeSpec := { name := "fnExactAddFrac", fn := fun _ => fun
  | [d1, d2] => { results := [.lit (.bool false)], args := [d1, d2] }
  | _ => none }
def FnExactAddFracWrongFalsely : Prop := fnExactAddFracRow.holds Try.pinned (OpenSpec.ofChange fnExactAddFracWrong)

/- THE SECOND FORM. 'bulk': how many values and letters a reading holds, each counted each time it is reached (what is shared counts as often as it is met; a slice's spare places count too). A statement '..UptoSaid' is the law's where the arguments, and the package variables that the reading takes, are together of bulk at most 1048576: NARROWER than '..Said'. Prove '..Said' where nothing that the law and all that it calls make is longer than what came in: it says more and counts as full. Else prove '..UptoSaid'. A law counts once. -/
mutual
def uptoBulk {H : Type} : DataW H → Nat
  | .lit (.string bytes) => bytes.length + 1
  | .lit _ => 1
  | .nil => 1
  | .ptr d => uptoBulk d + 1
  | .slice elems spare => uptoBulkAll elems + uptoBulkAll spare + 1
  | .agg parts => uptoBulkAll parts + 1
  | .iface _ d => uptoBulk d + 1
  | .map entries => uptoBulkEntries entries + 1
  | .held _ => 1
def uptoBulkAll {H : Type} : List (DataW H) → Nat
  | [] => 0
  | d :: r => uptoBulk d + uptoBulkAll r
def uptoBulkEntries {H : Type} : List (Lit × DataW H) → Nat
  | [] => 0
  | x :: r => uptoBulkEntry x + uptoBulkEntries r
def uptoBulkEntry {H : Type} : Lit × DataW H → Nat
  | (.string bytes, d) => bytes.length + uptoBulk d + 1
  | (_, d) => uptoBulk d + 1
 end
def uptoSmall : (H : Type) → List (DataW H) → Bool := fun _ ds => decide (uptoBulkAll ds ≤ 1048576)
def OpenSpec.upto (s : _root_.Go.ChangeSpec) : _root_.Go.OpenSpec := { _root_.Go.OpenSpec.ofChange s with cond := some uptoSmall }

/-- 'laws.FnExactRain', WHERE WHAT IT READS IS OF BULK AT MOST 1048576: true; the input reads as it did. -/
def fnExactRainUptoRow : OpenClaim := { program := "ythengechoaodcaa", sum := "c040b532123ffc17ba08df06ac7db49df175f23f06880a5159fc1795a89bf158", func := "loop.example/g00062/laws.FnExactRain", spec := "fnExactRain", apart := false, narrowed := true }
def FnExactRainUptoSaid : Prop := fnExactRainUptoRow.holds Try.pinned (OpenSpec.upto fnExactRainSpec)

/-- 'laws.FnSwings', WHERE WHAT IT READS IS OF BULK AT MOST 1048576: true; the input reads as it did. -/
def fnSwingsUptoRow : OpenClaim := { program := "ythengechoaodcaa", sum := "c040b532123ffc17ba08df06ac7db49df175f23f06880a5159fc1795a89bf158", func := "loop.example/g00062/laws.FnSwings", spec := "fnSwings", apart := false, narrowed := true }
def FnSwingsUptoSaid : Prop := fnSwingsUptoRow.holds Try.pinned (OpenSpec.upto fnSwingsSpec)

/-- 'laws.FnLifeParts', WHERE WHAT IT READS IS OF BULK AT MOST 1048576: true; the input reads as it did. -/
def fnLifePartsUptoRow : OpenClaim := { program := "ythengechoaodcaa", sum := "c040b532123ffc17ba08df06ac7db49df175f23f06880a5159fc1795a89bf158", func := "loop.example/g00062/laws.FnLifeParts", spec := "fnLifeParts", unfollowed := true, recurses := true, apart := false, narrowed := true }
def FnLifePartsUptoSaid : Prop := fnLifePartsUptoRow.holds Try.pinned (OpenSpec.upto fnLifePartsSpec)

/-- 'laws.FnExactTurnings', WHERE WHAT IT READS IS OF BULK AT MOST 1048576: true; the input reads as it did. -/
def fnExactTurningsUptoRow : OpenClaim := { program := "ythengechoaodcaa", sum := "c040b532123ffc17ba08df06ac7db49df175f23f06880a5159fc1795a89bf158", func := "loop.example/g00062/laws.FnExactTurnings", spec := "fnExactTurnings", apart := false, narrowed := true }
def FnExactTurningsUptoSaid : Prop := fnExactTurningsUptoRow.holds Try.pinned (OpenSpec.upto fnExactTurningsSpec)

/-- 'laws.FnExactLife', WHERE WHAT IT READS IS OF BULK AT MOST 1048576: true; the input reads as it did. -/
def fnExactLifeUptoRow : OpenClaim := { program := "ythengechoaodcaa", sum := "c040b532123ffc17ba08df06ac7db49df175f23f06880a5159fc1795a89bf158", func := "loop.example/g00062/laws.FnExactLife", spec := "fnExactLife", unfollowed := true, recurses := true, apart := false, narrowed := true }
def FnExactLifeUptoSaid : Prop := fnExactLifeUptoRow.holds Try.pinned (OpenSpec.upto fnExactLifeSpec)

/-- 'laws.FnExactAddFrac', WHERE WHAT IT READS IS OF BULK AT MOST 1048576: true; the input reads as it did. -/
def fnExactAddFracUptoRow : OpenClaim := { program := "ythengechoaodcaa", sum := "c040b532123ffc17ba08df06ac7db49df175f23f06880a5159fc1795a89bf158", func := "loop.example/g00062/laws.FnExactAddFrac", spec := "fnExactAddFrac", apart := false, narrowed := true }
def FnExactAddFracUptoSaid : Prop := fnExactAddFracUptoRow.holds Try.pinned (OpenSpec.upto fnExactAddFracSpec)

end Rows
end Go.Proofs.Ythengechoaodcaa
