/-
  laws.big answers whether a slice of bytes has more than 1<<20 elements.
-/
import Derived.Test.YtkkpmpicaiflgaaDoorBase
import Derived.Test.YtkkpmpicaiflgaaDoorPure
namespace Go.Proofs.YtkkpmpicaiflgaaDoor
set_option linter.unusedVariables false
set_option linter.unusedSimpArgs false
open Go.RowKit

theorem big_yes {w : World} {a : Option Addr} {len cap : Nat} (h : 1048576 < len) :
    Calls Tryd.prog 4 #[.slice a len cap] w fun e w' => e = .returned (.bool true) ∧ w = w' := by
  go_enter Tryd.func4, Tryd.ntmps4
  go_wp2_with fail
  go_ret
  exact ⟨ret_bool (by simp; omega), rfl⟩
theorem big_no {w : World} {a : Option Addr} {len cap : Nat} (h : len ≤ 1048576) :
    Calls Tryd.prog 4 #[.slice a len cap] w fun e w' => e = .returned (.bool false) ∧ w = w' := by
  go_enter Tryd.func4, Tryd.ntmps4
  go_wp2_with fail
  go_ret
  exact ⟨ret_bool (by simp; omega), rfl⟩

/-- A slice of bytes as the frame of a law gives it, in the form of the cursor's text. -/
theorem bytesAt_of {w : World} {a : Option Addr} {len cap : Nat} {zs : List Int}
    (h : (a = none ∧ len = 0 ∧ cap = 0 ∧ zs = []) ∨ ∃ x, a = some x ∧ len ≤ cap ∧ cap ≤ maxLen ∧ zs.length = cap ∧ (∀ i, i < zs.length → w.cell? (x.add i) = some (.int .u8 (zs.getD i 0))) ∧ ∀ n ∈ zs, (Lit.int .u8 n).wf = true) :
    BytesAt w.heap.size w a len := by
  rcases h with ⟨rfl, rfl, rfl, rfl⟩ | ⟨x, rfl, hl, hm, hz, hc, hw⟩
  · exact ⟨Nat.zero_le _, .inl rfl⟩
  · refine ⟨Nat.le_trans hl hm, ?_⟩
    by_cases h0 : len = 0
    · exact .inl h0
    · obtain ⟨blk, off, rfl, hcell⟩ := ints_at hc (by omega)
      refine .inr ⟨blk, off, fun j => zs.getD j 0, rfl, World.block_lt_of_cell? w _ (hcell 0 (by omega)), fun j hj => ⟨hcell j (by omega), ?_⟩⟩
      have hj' : j < zs.length := by omega
      have hmem : zs.getD j 0 ∈ zs := by simp [List.getD, hj']
      have := hw _ hmem
      simp [Lit.wf, IntKind.min, IntKind.max, IntKind.signed, IntKind.bits] at this
      exact ⟨by simpa using this.1, by simpa using this.2⟩
end Go.Proofs.YtkkpmpicaiflgaaDoor
