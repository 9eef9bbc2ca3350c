/-
  SharedLeads, AreBeside, BesideOf, FaceDegrees, of the program.
-/
import Derived.Test.YtnonebfdognlmabGreatGlsF
namespace Go.Proofs.YtnonebfdognlmabGreat
open Go.RowKit
set_option linter.unusedVariables false
set_option linter.unusedSimpArgs false

theorem g_len (ns ls : List Nd) : (gA ns ls).length = 2 * (gL ns ls).length ∧ (gL ns ls).length ≤ 20 := by
  unfold gA gL
  by_cases hh : wholeB ns ls = true
  · rw [if_pos hh, if_pos hh]
    exact ⟨atW_len ns ls, (whole_win hh).2.2.1⟩
  · rw [if_neg hh, if_neg hh]
    exact ⟨rfl, by simp⟩

end Go.Proofs.YtnonebfdognlmabGreat
