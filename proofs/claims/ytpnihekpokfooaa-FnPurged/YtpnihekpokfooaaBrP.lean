/-
What is proved: what a run answers, by name.
-/
import Derived.Test.YtpnihekpokfooaaBrN
import Derived.Test.YtpnihekpokfooaaBoR
namespace Go.Proofs.Ytpnihekpokfooaa
set_option maxRecDepth 40000
open Go.RowKit
set_option linter.unusedVariables false
set_option linter.unusedSimpArgs false

def RunPost (s t r : Int) (n : Nat) (V : Nat → Bool) (w : World) (e : Ending) (w' : World) : Prop := ∃ s' c', e = .returned (.tuple #[.slice s' (rnN (s, t, r) n) c', .agg #[.int .i64 (rnB (s, t, r) V n).1, .int .i64 (rnB (s, t, r) V n).2.1, .int .i64 (rnB (s, t, r) V n).2.2], .bool (rgB (s, t, r) n)]) ∧ OwnB w.heap.size w' s' (rnN (s, t, r) n * 3) (outU (s, t, r) V) ∧ Below w.heap.size w w'
theorem runPost_of {s t r : Int} {n : Nat} {V : Nat → Bool} {w : World} {e : Ending} {w' : World} (s' : Option Addr) (c' : Nat) (h : e = .returned (.tuple #[.slice s' (rnN (s, t, r) n) c', .agg #[.int .i64 (rnB (s, t, r) V n).1, .int .i64 (rnB (s, t, r) V n).2.1, .int .i64 (rnB (s, t, r) V n).2.2], .bool (rgB (s, t, r) n)])) (h1 : OwnB w.heap.size w' s' (rnN (s, t, r) n * 3) (outU (s, t, r) V)) (h2 : Below w.heap.size w w') : RunPost s t r n V w e w' := ⟨s', c', h, h1, h2⟩
end Go.Proofs.Ytpnihekpokfooaa
