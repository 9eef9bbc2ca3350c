/-
  FaceAt, AreaOf, TotalArea, FaceDegrees, of the program.
-/
import Derived.Test.YtmcbbjobjogkmaaGreatGlsI
namespace Go.Proofs.YtmcbbjobjogkmaaGreat
open Go.RowKit
set_option linter.unusedVariables false
set_option linter.unusedSimpArgs false

theorem g_area {ns ls : List Nd} {k : Nat} (h : k < (wF ns ls).length) : absR (gN ns ls) (gL ns ls) (atR (wF ns ls) k) = areaW ns ls k := by
  unfold areaW absR
  rw [g_areaR h, if_pos ((idxB_iff _ _).2 (by omega))]
  rfl

theorem g_noarea {ns ls : List Nd} {f : Int} (h : idxB (wF ns ls).length f = false) : areaW ns ls f = -1 := by
  unfold areaW
  rw [if_neg (by rw [h]; simp)]

theorem idx_nat {n : Nat} {f : Int} (h : idxB n f = true) : ∃ k : Nat, f = k ∧ k < n := by
  have := (idxB_iff n f).1 h
  exact ⟨f.toNat, by omega, by omega⟩

noncomputable def totalW (ns ls : List Nd) : Int := areaW ns ls (outW ns ls)

/-- The face to the left of a dart. -/
noncomputable def faceW (ns ls : List Nd) (d : Int) : Int := faceI (wF ns ls) d

theorem faceW_in {ns ls : List Nd} {d : Nat} (hh : wholeB ns ls = true) (hd : d < 2 * ls.length) : faceW ns ls d = atZ (atW ns ls) d := by
  unfold faceW wF
  rw [if_pos hh]
  exact (atW_face (whole_win hh).1 hd).1.symm

theorem faceW_out {ns ls : List Nd} {d : Int} (h : ¬ (wholeB ns ls = true ∧ idxB (2 * ls.length) d = true)) : faceW ns ls d = -1 := by
  refine faceI_unseen ?_
  rw [Bool.eq_false_iff]
  intro hs
  obtain ⟨hh, q, rfl, hq⟩ := wF_dart hs
  exact h ⟨hh, (idxB_iff _ _).2 (by omega)⟩

end Go.Proofs.YtmcbbjobjogkmaaGreat
