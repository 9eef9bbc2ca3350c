/-
  Slices of pairs of ints (nodes, leads) in memory.
-/
import Derived.Test.YtfppnaknnijobabHeld
import Derived.Test.YtfppnaknnijobabNodeP
namespace Go.Proofs.Ytfppnaknnijobab
open Go.RowKit
set_option linter.unusedVariables false
set_option linter.unusedSimpArgs false

def atN (xs : List Nd) (k : Nat) : Nd := xs.getD k ⟨0, 0⟩
def atI (xs : List Nd) (i : Int) : Nd := xs.getD i.toNat ⟨0, 0⟩
theorem atN_mem {xs : List Nd} {k : Nat} (h : k < xs.length) : atN xs k ∈ xs := by unfold atN; simp [List.getD, h]
theorem atN_get {xs : List Nd} {k : Nat} (h : k < xs.length) : xs[k] = atN xs k := by unfold atN; simp [List.getD, h]
theorem take_atN {xs : List Nd} {k : Nat} (h : k < xs.length) : xs.take (k + 1) = xs.take k ++ [atN xs k] := by
  rw [List.take_succ_eq_append_getElem h, atN_get h]
theorem atI_nat (xs : List Nd) (k : Nat) : atI xs (k : Int) = atN xs k := rfl

/-- The cells at block b from place o on read as the pairs xs. -/
def CellsAt (w : World) (b o : Nat) (xs : List Nd) : Prop :=
  ∀ k, k < xs.length → w.cell? ⟨b, o + k * 2, none⟩ = some (.int .i64 (atN xs k).x) ∧ w.cell? ⟨b, o + k * 2 + 1, none⟩ = some (.int .i64 (atN xs k).y)

/-- The slice value v reads as the pairs xs. -/
def Prs (w : World) (v : Value) (xs : List Nd) : Prop :=
  ∃ (A : Option Addr) (c : Nat), v = .slice A xs.length c ∧ xs.length ≤ c ∧ c ≤ maxLen ∧ (0 < xs.length → ∃ b o, A = some ⟨b, o, none⟩ ∧ b < w.heap.size ∧ CellsAt w b o xs)

theorem CellsAt.keep {w w' : World} {b o : Nat} {xs : List Nd} (h : CellsAt w b o xs) (hk : ∀ k, w'.cell? ⟨b, k, none⟩ = w.cell? ⟨b, k, none⟩) : CellsAt w' b o xs :=
  fun k hlt => ⟨(hk _).trans (h k hlt).1, (hk _).trans (h k hlt).2⟩

theorem Prs.step {w w' : World} {v : Value} {xs : List Nd} (h : Prs w v xs) (hb : Below w.heap.size w w') : Prs w' v xs := by
  obtain ⟨A, c, rfl, hl, hc, hx⟩ := h
  refine ⟨A, c, rfl, hl, hc, fun h0 => ?_⟩
  obtain ⟨b, o, rfl, hlt, hcs⟩ := hx h0
  exact ⟨b, o, rfl, Nat.lt_of_lt_of_le hlt hb.size, hcs.keep fun k => hb.cell (p := ⟨b, k, none⟩) hlt⟩

theorem prs_at2 {w : World} {v : Value} {xs : List Nd} (h : Prs w v xs) {k : Nat} (hk : k < xs.length) :
    ∃ (b o c : Nat), v = .slice (some ⟨b, o, none⟩) xs.length c ∧ b < w.heap.size ∧ CellsAt w b o xs := by
  obtain ⟨A, c, rfl, hl, hc, hx⟩ := h
  obtain ⟨b, o, rfl, hlt, hcs⟩ := hx (by omega)
  exact ⟨b, o, c, rfl, hlt, hcs⟩
theorem prs_form2 {w : World} {v : Value} {xs : List Nd} (h : Prs w v xs) : ∃ (A : Option Addr) (c : Nat), v = .slice A xs.length c := by
  obtain ⟨A, c, rfl, _⟩ := h
  exact ⟨A, c, rfl⟩

theorem Prs.nil_ (w : World) : Prs w (.slice none 0 0) [] := ⟨none, 0, rfl, Nat.le_refl _, Nat.zero_le _, fun h => absurd h (by simp)⟩

theorem Prs.len {w : World} {v : Value} {xs : List Nd} (h : Prs w v xs) : xs.length ≤ 9223372036854775807 := by
  obtain ⟨A, c, rfl, hl, hc, hx⟩ := h
  unfold maxLen at hc
  omega

/-- The cells of one pair, for a walk that keeps them in view. -/
def P1 (b o : Nat) (xs : List Nd) (k : Nat) : List (Nat × Nat × Value) := [(b, o + k * 2, .int .i64 (atN xs k).x), (b, o + k * 2 + 1, .int .i64 (atN xs k).y)]
theorem P1_cs {w : World} {b o : Nat} {xs : List Nd} (h : CellsAt w b o xs) {k : Nat} (hk : k < xs.length) : Cs w (P1 b o xs k) := ⟨(h k hk).1, (h k hk).2, trivial⟩
theorem P1_bs {n b o : Nat} {xs : List Nd} {k : Nat} (h : b < n) : Bs n (P1 b o xs k) := ⟨h, h, trivial⟩
end Go.Proofs.Ytfppnaknnijobab
