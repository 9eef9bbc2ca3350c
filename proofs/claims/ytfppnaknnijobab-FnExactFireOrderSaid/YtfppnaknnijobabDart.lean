/-
  Darts: which there are, where they begin and end, of the model and of the program.
-/
import Derived.Test.YtfppnaknnijobabLAt
import Derived.Test.YtfppnaknnijobabLBet
namespace Go.Proofs.Ytfppnaknnijobab
open Go.RowKit
set_option linter.unusedVariables false
set_option linter.unusedSimpArgs false

def hasDB (ns ls : List Nd) (d : Int) : Bool := winB ns ls && idxB (2 * ls.length) d
/-- Where dart d begins and ends. -/
def dF (ls : List Nd) (d : Nat) : Int := if d % 2 = 1 then (atN ls (d / 2)).y else (atN ls (d / 2)).x
def dT (ls : List Nd) (d : Nat) : Int := if d % 2 = 1 then (atN ls (d / 2)).x else (atN ls (d / 2)).y
def fromI (ns ls : List Nd) (d : Int) : Int := if hasDB ns ls d = true then dF ls d.toNat else -1
def toI (ns ls : List Nd) (d : Int) : Int := if hasDB ns ls d = true then dT ls d.toNat else -1
def dbetI (ns ls : List Nd) (a b : Int) : Int := if betI ns ls a b < 0 then -1 else if a < b then 2 * betI ns ls a b else 2 * betI ns ls a b + 1
def TwoIs (a b : Int) (w : World) (e : Ending) (w' : World) : Prop := e = .returned (.tuple #[.int .i64 a, .int .i64 b]) ∧ Below w.heap.size w w'
theorem hasDB_nat {ns ls : List Nd} {d : Int} (h : hasDB ns ls d = true) : ∃ k : Nat, d = k ∧ k < 2 * ls.length ∧ ls.length ≤ 20 ∧ winB ns ls = true := by
  unfold hasDB at h
  simp only [Bool.and_eq_true] at h
  have h2 := (idxB_iff _ _).1 h.2
  have h3 := ((winB_iff ns ls).1 h.1).1.2
  exact ⟨d.toNat, by omega, by omega, h3, h.1⟩

theorem wrap_two {n : Nat} (h : n ≤ 1048576) : IntKind.i64.wrap (2 * (n : Int)) = 2 * (n : Int) := IntWalk.i64_in _ (by omega)
theorem wrap_two1 {n : Nat} (h : n ≤ 1048576) : IntKind.i64.wrap (2 * (n : Int) - 1) = ((2 * n : Nat) : Int) - 1 := by rw [IntWalk.i64_in _ (by omega)]; omega

theorem betI_nat {ns ls : List Nd} {a b : Int} (h : ¬ betI ns ls a b < 0) : ∃ k : Nat, betI ns ls a b = k ∧ k < ls.length ∧ ls.length ≤ 20 ∧ atN ls k = ⟨min a b, max a b⟩ ∧ min a b < max a b := by
  unfold betI at *
  by_cases hw : winB ns ls = true
  · rw [if_pos hw] at h ⊢
    have hf : ∀ (n k : Nat), n + k = ls.length → ¬ fstGo ls ⟨min a b, max a b⟩ k n < 0 → ∃ q : Nat, fstGo ls ⟨min a b, max a b⟩ k n = q ∧ q < ls.length ∧ atN ls q = ⟨min a b, max a b⟩ := by
      intro n
      induction n with
      | zero => intro k hk h; simp [fstGo] at h
      | succ n ih =>
        intro k hk h
        unfold fstGo at h ⊢
        by_cases e : atN ls k = ⟨min a b, max a b⟩
        · rw [if_pos e]; exact ⟨k, rfl, by omega, e⟩
        · rw [if_neg e] at h ⊢; exact ih (k + 1) (by omega) h
    obtain ⟨q, e, hq, hat⟩ := hf ls.length 0 rfl h
    have hok := (((winB_iff ns ls).1 hw).2.2 q hq).1
    obtain ⟨i, j, e2, hij, _⟩ := leadOkB_spec hok
    rw [hat] at e2
    injection e2 with e3 e4
    exact ⟨q, e, hq, ((winB_iff ns ls).1 hw).1.2, hat, by omega⟩
  · rw [if_neg hw] at h; omega

end Go.Proofs.Ytfppnaknnijobab
