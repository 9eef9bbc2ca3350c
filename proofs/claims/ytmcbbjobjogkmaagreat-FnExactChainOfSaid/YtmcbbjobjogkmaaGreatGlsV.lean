/-
  AreBeside, BesideOf, SidesOf, of the model; FaceDegrees, of both.
-/
import Derived.Test.YtmcbbjobjogkmaaGreatGlsU
namespace Go.Proofs.YtmcbbjobjogkmaaGreat
open Go.RowKit
set_option linter.unusedVariables false
set_option linter.unusedSimpArgs false

theorem besB_none {ns ls : List Nd} {f h : Int} (hf : ¬ idxB (wF ns ls).length f = true) : besB ns ls f h = false := by
  unfold besB
  rw [sharedW_none (fun hx => hf hx.1)]
  simp

theorem besW_none {ns ls : List Nd} {f : Int} (hf : ¬ idxB (wF ns ls).length f = true) : besW ns ls f = [] := fltN_none _ fun k _ => besB_none hf

theorem besW_len (ns ls : List Nd) (f : Int) : (besW ns ls f).length ≤ 40 := by
  have := fltN_len (fun k => besB ns ls f k) (wF ns ls).length
  have := wF_len (ns := ns) (ls := ls)
  unfold besW
  omega

def degF (rs : List (List Int)) (n : Nat) : List Int := (rs.take n).map fun r => ((r.length : Nat) : Int)

theorem degF_succ {rs : List (List Int)} {n : Nat} (h : n < rs.length) : degF rs (n + 1) = degF rs n ++ [(((atR rs n).length : Nat) : Int)] := by
  unfold degF
  rw [takeR_succ h]
  simp

theorem degF_len (rs : List (List Int)) (n : Nat) : (degF rs n).length ≤ n := by unfold degF; rw [List.length_map, List.length_take]; omega

noncomputable def degW (ns ls : List Nd) : List Int := degF (wF ns ls) (wF ns ls).length

theorem degW_len (ns ls : List Nd) : (degW ns ls).length ≤ 40 := by
  have := degF_len (wF ns ls) (wF ns ls).length
  have := wF_len (ns := ns) (ls := ls)
  unfold degW
  omega

/-- What lies in the blocks from B on and before the heap's end of w is as it was. -/
def Keeps (B : Nat) (w W : World) : Prop := w.heap.size ≤ W.heap.size ∧ ∀ k, B ≤ k → k < w.heap.size → W.heap[k]? = w.heap[k]?

theorem Keeps.refl (B : Nat) (w : World) : Keeps B w w := ⟨Nat.le_refl _, fun _ _ _ => rfl⟩

theorem Keeps.below {B : Nat} {w W W' : World} (h : Keeps B w W) (hb : Below W.heap.size W W') : Keeps B w W' := ⟨Nat.le_trans h.1 hb.size, fun k h1 h2 => (hb.block k (Nat.lt_of_lt_of_le h2 h.1)).trans (h.2 k h1 h2)⟩

theorem Keeps.grown {B : Nat} {w W W' : World} {row : Option Nat} (h : Keeps B w W) (hg : W.grownBy W' row) (hr : ∀ k, row = some k → k < B ∨ w.heap.size ≤ k) : Keeps B w W' :=
  ⟨Nat.le_trans h.1 hg.size, fun k h1 h2 => (hg.block k (Nat.lt_of_lt_of_le h2 h.1) (fun e => by have := hr k e.symm; omega)).trans (h.2 k h1 h2)⟩

theorem Faces.open2 {w : World} {B : Nat} {v : Value} {rs : List (List Int)} (h : Faces w B v rs) : ∃ a c, v = .slice a rs.length c ∧ rs.length ≤ maxLen ∧ ∀ m, m < rs.length → ∃ g, a = some ⟨g, 0, none⟩ ∧ g < w.heap.size ∧
    ∀ W, Keeps B w W → ∃ A4 c4, W.cell? ⟨g, m, none⟩ = some (.slice A4 (atR rs m).length c4) ∧ Seq W (.slice A4 (atR rs m).length c4) (atR rs m) := by
  obtain ⟨us, h⟩ := h
  obtain ⟨a, c, rfl, hm, hc⟩ := h.form
  refine ⟨a, c, rfl, hm, fun m hlt => ?_⟩
  obtain ⟨g, rfl, hB, hg, hcell⟩ := hc m hlt
  refine ⟨g, rfl, hg, fun W hb => ?_⟩
  have hi := (h.each m hlt).keep (w' := W) fun k hk => hb.2 k ((h.each m hlt).own k hk).1 ((h.each m hlt).own k hk).2
  have hs := hi.seq
  obtain ⟨A4, c4, e, -, -, -⟩ := hs.form
  exact ⟨A4, c4, by rw [World.cell?_of_block (hb.2 g hB hg), hcell, e], by rw [← e]; exact hs⟩

end Go.Proofs.YtmcbbjobjogkmaaGreat
