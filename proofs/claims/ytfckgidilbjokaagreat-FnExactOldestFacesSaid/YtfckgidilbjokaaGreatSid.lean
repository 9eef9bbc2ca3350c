/-
  SidesOf, of the program and of the model.
-/
import Derived.Test.YtfckgidilbjokaaGreatGlsV
namespace Go.Proofs.YtfckgidilbjokaaGreat
open Go.RowKit
set_option linter.unusedVariables false
set_option linter.unusedSimpArgs false

def sidB (ns ls : List Nd) (k : Int) : Bool := wholeB ns ls && idxB ls.length k
noncomputable def sdA (ns ls : List Nd) (k : Int) : Int := if sidB ns ls k = true then atZ (atW ns ls) (2 * k.toNat) else -1
noncomputable def sdB (ns ls : List Nd) (k : Int) : Int := if sidB ns ls k = true then atZ (atW ns ls) (2 * k.toNat + 1) else -1

end Go.Proofs.YtfckgidilbjokaaGreat
