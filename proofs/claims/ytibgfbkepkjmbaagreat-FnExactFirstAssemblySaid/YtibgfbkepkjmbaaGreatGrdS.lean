/-
  GreedyColors, of the model.
-/
import Derived.Test.YtibgfbkepkjmbaaGreatG21
import Derived.Test.YtibgfbkepkjmbaaGreatMat
namespace Go.Proofs.YtibgfbkepkjmbaaGreat
open Go.RowKit
set_option linter.unusedVariables false
set_option linter.unusedSimpArgs false

/-- The colors of all faces of a whole window. -/
noncomputable def grdW (ns ls : List Nd) : List Int := if wholeB ns ls = true then grdL (besM (atW ns ls) ls.length) (wF ns ls).length else []

end Go.Proofs.YtibgfbkepkjmbaaGreat
