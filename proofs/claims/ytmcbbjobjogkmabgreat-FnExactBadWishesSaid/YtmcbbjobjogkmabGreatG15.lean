/-
  Several texts in one: a claim has at most 60 files.
-/
import Derived.Test.YtmcbbjobjogkmabGreatG13
import Derived.Test.YtmcbbjobjogkmabGreatG14

namespace Go.Proofs.YtmcbbjobjogkmabGreat
open Go.RowKit
set_option linter.unusedVariables false
set_option linter.unusedSimpArgs false

theorem Faces.open_ {w : World} {B : Nat} {v : Value} {rs : List (List Int)} (h : Faces w B v rs) : ∃ a c, v = .slice a rs.length c ∧ rs.length ≤ maxLen ∧ ∀ m, m < rs.length → ∃ g, a = some ⟨g, 0, none⟩ ∧ g < w.heap.size ∧
    ∀ W, Below w.heap.size w W → ∃ A4 c4, W.cell? ⟨g, m, none⟩ = some (.slice A4 (atR rs m).length c4) ∧ Seq W (.slice A4 (atR rs m).length c4) (atR rs m) := by
  obtain ⟨us, h⟩ := h
  obtain ⟨a, c, rfl, hm, hc⟩ := h.form
  refine ⟨a, c, rfl, hm, fun m hlt => ?_⟩
  obtain ⟨g, rfl, hB, hg, hcell⟩ := hc m hlt
  refine ⟨g, rfl, hg, fun W hb => ?_⟩
  have hs := ((h.each m hlt).step hb).seq
  obtain ⟨A4, c4, e, -, -, -⟩ := hs.form
  exact ⟨A4, c4, by rw [hb.cell (p := ⟨g, m, none⟩) hg, hcell, e], by rw [← e]; exact hs⟩

noncomputable def areaR (ns ls : List Nd) (r : List Int) : Int := areaL ns ls r r.length

noncomputable def outP (ns ls : List Nd) (rs : List (List Int)) (k : Nat) : Bool := decide (areaR ns ls (atR rs k) ≤ 0)

noncomputable def outW (ns ls : List Nd) : Int := firstI (outP ns ls (wF ns ls)) (wF ns ls).length

noncomputable def absR (ns ls : List Nd) (r : List Int) : Int := max (areaR ns ls r) (-(areaR ns ls r))

noncomputable def areaW (ns ls : List Nd) (f : Int) : Int := if idxB (wF ns ls).length f = true then absR ns ls (atR (wF ns ls) f.toNat) else -1

/-- The rows are walks of the window. -/
def RowsOk (ns ls : List Nd) (rs : List (List Int)) : Prop := rs.length ≤ 40 ∧ ∀ k, k < rs.length → winB ns ls = true ∧ DartsOf ls (atR rs k) ∧ (atR rs k).length ≤ 40

theorem wF_ok (ns ls : List Nd) : RowsOk ns ls (wF ns ls) := by
  refine ⟨wF_len, fun k hk => ?_⟩
  obtain ⟨hh, d, hd, e, _⟩ := wF_row hk
  obtain ⟨hw, -, -, -⟩ := whole_win hh
  refine ⟨hw, fun i hi => ?_, (row_len hk).1⟩
  rw [e] at hi ⊢
  exact walk_nat hw hd (by rw [← atZ_get hi]; exact List.getElem_mem hi)

theorem areaR_bd {ns ls : List Nd} {rs : List (List Int)} (h : RowsOk ns ls rs) {k : Nat} (hk : k < rs.length) : -16000 ≤ areaR ns ls (atR rs k) ∧ areaR ns ls (atR rs k) ≤ 16000 := by
  obtain ⟨hw, hd, h40⟩ := h.2 k hk
  have := area_bd hw hd (atR rs k).length (Nat.le_refl _)
  unfold areaR
  omega

theorem heldG (w : World) (v1 v2 v3 v4 : Value) (T : TypeId) : Held w (w.alloc (.cells #[v1, v2, v3, v4] T)) [(w.heap.size, 0, v1), (w.heap.size, 1, v2), (w.heap.size, 2, v3), (w.heap.size, 3, v4)] :=
  (Held.none_ w).new2 w.heap.size rfl [v1, v2, v3, v4] T

theorem faces_form {w : World} {B : Nat} {v : Value} {rs : List (List Int)} (h : Faces w B v rs) : ∃ a c, v = .slice a rs.length c := by obtain ⟨a, c, e, -⟩ := h.open_; exact ⟨a, c, e⟩

theorem ints_form {w : World} {B : Nat} {v : Value} {xs : List Int} (h : Ints w B v xs) : ∃ a c, v = .slice a xs.length c := by obtain ⟨a, c, e, -⟩ := h.form; exact ⟨a, c, e⟩

def gN (ns ls : List Nd) : List Nd := if wholeB ns ls = true then ns else []

def gL (ns ls : List Nd) : List Nd := if wholeB ns ls = true then ls else []

noncomputable def gA (ns ls : List Nd) : List Int := if wholeB ns ls = true then atW ns ls else []

/-- What glassOf returns. -/
def GlassNew (ns ls : List Nd) (w : World) (e : Ending) (w' : World) : Prop :=
  ∃ v1 v2 v3 v4, e = .returned (.tuple #[.agg #[v1, v2, v3, v4], .bool (wholeB ns ls)]) ∧ Prs w' v1 (gN ns ls) ∧ Prs w' v2 (gL ns ls) ∧ Faces w' w.heap.size v3 (wF ns ls) ∧ Ints w' w.heap.size v4 (gA ns ls) ∧ Below w.heap.size w w'

theorem prs_nil (w : World) : Prs w (.slice none 0 0) [] := ⟨none, 0, rfl, Nat.le_refl _, by unfold maxLen; omega, fun h => by simp at h⟩

theorem implGlass (ns ls : List Nd) (vn vl : Value) (w : World) (hn : Prs w vn ns) (hl : Prs w vl ls) :
    Calls Tryz.prog 35 #[.agg #[vn, vl]] w (GlassNew ns ls w) := by
  by_cases hh : wholeB ns ls = true
  · refine (implGlassYes ns ls vn vl w hn hl hh).mono ?_
    rintro e w' ⟨vf, va, rfl, hf, ha, hb⟩
    refine ⟨vn, vl, vf, va, by rw [hh], ?_, ?_, ?_, ?_, hb⟩
    · unfold gN; rw [if_pos hh]; exact hn.step hb
    · unfold gL; rw [if_pos hh]; exact hl.step hb
    · unfold wF; rw [if_pos hh]; exact hf
    · unfold gA; rw [if_pos hh]; exact ha
  · have hf : wholeB ns ls = false := by simpa using hh
    refine (implGlassNo ns ls vn vl w hn hl hf).mono ?_
    rintro e w' ⟨rfl, hb⟩
    refine ⟨_, _, _, _, by rw [hf], ?_, ?_, ?_, ?_, hb⟩
    · unfold gN; rw [if_neg hh]; exact prs_nil _
    · unfold gL; rw [if_neg hh]; exact prs_nil _
    · unfold wF; rw [if_neg hh]; exact Faces.nil _ _
    · unfold gA; rw [if_neg hh]; exact Ints.nil _ _

theorem g_ok (ns ls : List Nd) : RowsOk (gN ns ls) (gL ns ls) (wF ns ls) := by
  by_cases hh : wholeB ns ls = true
  · have := wF_ok ns ls
    unfold gN gL
    rw [if_pos hh, if_pos hh]
    exact this
  · unfold wF
    rw [if_neg hh]
    exact ⟨by simp, fun k hk => by simp at hk⟩

theorem g_areaR {ns ls : List Nd} {k : Nat} (h : k < (wF ns ls).length) (r : List Int) : areaR (gN ns ls) (gL ns ls) r = areaR ns ls r := by
  have hh := (wF_row h).1
  unfold gN gL
  rw [if_pos hh, if_pos hh]

theorem g_outer (ns ls : List Nd) : firstI (outP (gN ns ls) (gL ns ls) (wF ns ls)) (wF ns ls).length = outW ns ls := by
  unfold outW
  exact firstI_congr _ fun j hj => by unfold outP; rw [g_areaR hj]

end Go.Proofs.YtmcbbjobjogkmabGreat

namespace Go.Proofs.YtmcbbjobjogkmabGreat
open Go.RowKit
set_option linter.unusedVariables false
set_option linter.unusedSimpArgs false

theorem g_area {ns ls : List Nd} {k : Nat} (h : k < (wF ns ls).length) : absR (gN ns ls) (gL ns ls) (atR (wF ns ls) k) = areaW ns ls k := by
  unfold areaW absR
  rw [g_areaR h, if_pos ((idxB_iff _ _).2 (by omega))]
  rfl

theorem g_noarea {ns ls : List Nd} {f : Int} (h : idxB (wF ns ls).length f = false) : areaW ns ls f = -1 := by
  unfold areaW
  rw [if_neg (by rw [h]; simp)]

theorem idx_nat {n : Nat} {f : Int} (h : idxB n f = true) : ∃ k : Nat, f = k ∧ k < n := by
  have := (idxB_iff n f).1 h
  exact ⟨f.toNat, by omega, by omega⟩

noncomputable def totalW (ns ls : List Nd) : Int := areaW ns ls (outW ns ls)

/-- The face to the left of a dart. -/
noncomputable def faceW (ns ls : List Nd) (d : Int) : Int := faceI (wF ns ls) d

theorem faceW_in {ns ls : List Nd} {d : Nat} (hh : wholeB ns ls = true) (hd : d < 2 * ls.length) : faceW ns ls d = atZ (atW ns ls) d := by
  unfold faceW wF
  rw [if_pos hh]
  exact (atW_face (whole_win hh).1 hd).1.symm

theorem faceW_out {ns ls : List Nd} {d : Int} (h : ¬ (wholeB ns ls = true ∧ idxB (2 * ls.length) d = true)) : faceW ns ls d = -1 := by
  refine faceI_unseen ?_
  rw [Bool.eq_false_iff]
  intro hs
  obtain ⟨hh, q, rfl, hq⟩ := wF_dart hs
  exact h ⟨hh, (idxB_iff _ _).2 (by omega)⟩

end Go.Proofs.YtmcbbjobjogkmabGreat
