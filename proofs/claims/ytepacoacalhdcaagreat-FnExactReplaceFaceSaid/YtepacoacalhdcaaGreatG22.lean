/-
  Several texts in one: a claim has at most 60 files.
-/
import Derived.Test.YtepacoacalhdcaaGreatG5
import Derived.Test.YtepacoacalhdcaaGreatG1
import Derived.BigQuiet

namespace Go.Proofs.YtepacoacalhdcaaGreat
open Go.RowKit
set_option linter.unusedVariables false
set_option linter.unusedSimpArgs false

theorem seq_at {W : World} {n c : Nat} {A : Option Addr} {L : List Int} (h : Seq W (.slice A n c) L) : ∀ k, k < L.length → ∃ b o, A = some ⟨b, o, none⟩ ∧ b < W.heap.size ∧ ∀ j, j < L.length → W.cell? ⟨b, o + j, none⟩ = some (.int .i64 (atZ L j)) := by
  obtain ⟨A', c', e, _, _, hx⟩ := h
  injection e with e1 _ _
  intro k hk
  obtain ⟨b, o, ha, hb, hc⟩ := hx (by omega)
  exact ⟨b, o, e1.trans ha, hb, hc⟩

structure BarsP (xs : List Int) : Prop where
  inr : ∀ k, k < xs.length → 0 ≤ atZ xs k ∧ atZ xs k ≤ 20
  up : ∀ k, k + 1 < xs.length → atZ xs k < atZ xs (k + 1)
  few : xs.length ≤ 10

open Classical in
noncomputable def barB (xs : List Int) : Bool := decide (BarsP xs)

theorem barB_iff (xs : List Int) : barB xs = true ↔ BarsP xs := by unfold barB; simp

theorem inR_iff (xs : List Int) (a b : Int) : inR xs a b = true ↔ ∀ k, k < xs.length → a ≤ atZ xs k ∧ atZ xs k ≤ b := by
  unfold inR
  rw [List.all_eq_true]
  constructor
  · intro h k hk
    have := h _ (List.getElem_mem hk)
    rw [atZ_get hk] at this
    exact (inB_iff _ _ _).1 this
  · intro h x hx
    obtain ⟨k, hk, rfl⟩ := List.getElem_of_mem hx
    rw [atZ_get hk]
    exact (inB_iff _ _ _).2 (h k hk)

end Go.Proofs.YtepacoacalhdcaaGreat
