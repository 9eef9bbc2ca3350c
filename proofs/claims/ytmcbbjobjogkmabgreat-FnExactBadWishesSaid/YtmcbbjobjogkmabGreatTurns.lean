/-
  The turns along a border, of the program.
-/
import Derived.Test.YtmcbbjobjogkmabGreatG7
import Derived.Test.YtmcbbjobjogkmabGreatDetA
namespace Go.Proofs.YtmcbbjobjogkmabGreat
open Go.RowKit
set_option linter.unusedVariables false
set_option linter.unusedSimpArgs false

def tuA (ns : List Nd) (xs : List Int) (m : Nat) : Int := turnOf (atN ns (atZ xs ((m + xs.length - 1) % xs.length)).toNat) (atN ns (atZ xs m).toNat) (atN ns (atZ xs ((m + 1) % xs.length)).toNat)

def tuL (ns : List Nd) (xs : List Int) (n : Nat) : List Int := (List.range n).map (tuA ns xs)

theorem tuL_succ (ns : List Nd) (xs : List Int) (n : Nat) : tuL ns xs (n + 1) = tuL ns xs n ++ [tuA ns xs n] := by simp [tuL, List.range_succ]

theorem tuL_len (ns : List Nd) (xs : List Int) (n : Nat) : (tuL ns xs n).length = n := by simp [tuL]

/-- The ints name nodes. -/
def NodesOf (ns : List Nd) (xs : List Int) : Prop := ∀ i, i < xs.length → ∃ a : Nat, atZ xs i = a ∧ a < ns.length ∧ okB (atN ns a) = true

theorem bord_nodes {ns ls : List Nd} {r : List Int} (hw : winB ns ls = true) (hd : DartsOf ls r) : NodesOf ns (bord ls r) := by
  intro i hi
  rw [bord_len] at hi
  obtain ⟨q, hq, hq2⟩ := hd i hi
  obtain ⟨a, b, ha, hb, ha2, hb2, _⟩ := dart_nat hw hq2
  refine ⟨a, ?_, ha2, (((winB_iff ns ls).1 hw).2.1 a ha2).1⟩
  have e : atZ (bord ls r) i = dF ls (atZ r i).toNat := by
    unfold bord bordL atZ
    rw [List.take_length]
    simp [List.getD, hi]
  rw [e, hq]
  exact ha

theorem rem_back {m n : Nat} (h : m < n) : ((m : Int) + n - 1) % (n : Int) = ((m + n - 1) % n : Nat) ∧ (m + n - 1) % n < n := by
  refine ⟨?_, Nat.mod_lt _ (by omega)⟩
  rw [show (m : Int) + n - 1 = ((m + n - 1 : Nat) : Int) by omega]
  exact (Int.natCast_emod _ _).symm

theorem rem_next {m n : Nat} (h : m < n) : ((m : Int) + 1) % (n : Int) = ((m + 1) % n : Nat) ∧ (m + 1) % n < n := by
  refine ⟨?_, Nat.mod_lt _ (by omega)⟩
  rw [show (m : Int) + 1 = ((m + 1 : Nat) : Int) by omega]
  exact (Int.natCast_emod _ _).symm

end Go.Proofs.YtmcbbjobjogkmabGreat
