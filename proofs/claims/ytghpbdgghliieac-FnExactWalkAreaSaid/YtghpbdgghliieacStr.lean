/-
  Straight nodes, of the model and of the program.
-/
import Derived.Test.YtghpbdgghliieacDeg
import Derived.Test.YtghpbdgghliieacDetV
namespace Go.Proofs.Ytghpbdgghliieac
open Go.RowKit
set_option linter.unusedVariables false
set_option linter.unusedSimpArgs false

def strB (ns ls : List Nd) (k : Int) : Bool :=
  decide ((atsI ns ls k).length = 2) && betweenB (atI ns (otherI (atI ls ((atsI ns ls k).getD 0 0)) k)) (atI ns (otherI (atI ls ((atsI ns ls k).getD 1 0)) k)) (atI ns k)
theorem atL_mem (ls : List Nd) (k : Int) : ∀ n x, x ∈ atL ls k n → ∃ i : Nat, x = i ∧ i < n ∧ ((atN ls i).x = k ∨ (atN ls i).y = k)
  | 0, x, h => by simp [atL] at h
  | n + 1, x, h => by
    unfold atL at h
    split at h
    · rename_i hk
      rcases List.mem_append.1 h with h | h
      · obtain ⟨i, e, hi, hh⟩ := atL_mem ls k n x h
        exact ⟨i, e, by omega, hh⟩
      · simp at h
        exact ⟨n, h, by omega, hk⟩
    · obtain ⟨i, e, hi, hh⟩ := atL_mem ls k n x h
      exact ⟨i, e, by omega, hh⟩
theorem atsI_mem {ns ls : List Nd} {k : Int} {x : Int} (h : x ∈ atsI ns ls k) : hasB ns ls k = true ∧ ∃ i : Nat, x = i ∧ i < ls.length ∧ ((atN ls i).x = k ∨ (atN ls i).y = k) := by
  unfold atsI at h
  split at h
  · rename_i hh
    exact ⟨hh, atL_mem _ _ _ _ h⟩
  · simp at h
theorem hasB_nat {ns ls : List Nd} {k : Int} (h : hasB ns ls k = true) : ∃ q : Nat, k = q ∧ q < ns.length ∧ winB ns ls = true ∧ ns.length ≤ 12 ∧ ls.length ≤ 20 := by
  unfold hasB at h
  simp only [Bool.and_eq_true] at h
  have h2 := (idxB_iff _ _).1 h.2
  have h3 := ((winB_iff ns ls).1 h.1).1
  exact ⟨k.toNat, by omega, by omega, h.1, h3.1.2, h3.2⟩
theorem other_nat {ns ls : List Nd} {i k : Nat} (hw : winB ns ls = true) (hi : i < ls.length) (h : (atN ls i).x = k ∨ (atN ls i).y = k) : ∃ a : Nat, otherI (atN ls i) k = a ∧ a < ns.length := by
  obtain ⟨p, q, e, hpq, hp, hq, _⟩ := leadOkB_spec (((winB_iff ns ls).1 hw).2.2 i hi).1
  rw [e] at h ⊢
  simp only at h
  unfold otherI
  simp only
  by_cases h1 : (k : Int) = (p : Int)
  · rw [if_pos h1]; exact ⟨q, rfl, hq⟩
  · rw [if_neg h1, if_pos (by omega)]; exact ⟨p, rfl, hp⟩
theorem str_two {ns ls : List Nd} {k : Int} (h : (atsI ns ls k).length = 2) : ∃ i j q a b : Nat, atsI ns ls k = [(i : Int), (j : Int)] ∧ k = q ∧ hasB ns ls k = true ∧ i < ls.length ∧ j < ls.length ∧ q < ns.length ∧
    otherI (atN ls i) q = a ∧ a < ns.length ∧ otherI (atN ls j) q = b ∧ b < ns.length ∧ strB ns ls k = betweenB (atN ns a) (atN ns b) (atN ns q) ∧ ns.length ≤ 12 ∧ ls.length ≤ 20 := by
  obtain ⟨x, y, e⟩ : ∃ x y, atsI ns ls k = [x, y] := by
    match hm : atsI ns ls k, h with
    | [x, y], _ => exact ⟨x, y, rfl⟩
  obtain ⟨hh, i, rfl, hi, hx⟩ := atsI_mem (ns := ns) (ls := ls) (k := k) (x := x) (by rw [e]; simp)
  obtain ⟨_, j, rfl, hj, hy⟩ := atsI_mem (ns := ns) (ls := ls) (k := k) (x := y) (by rw [e]; simp)
  obtain ⟨q, rfl, hq, hw, h12, h20⟩ := hasB_nat hh
  obtain ⟨a, ha, hal⟩ := other_nat hw hi hx
  obtain ⟨b, hb, hbl⟩ := other_nat hw hj hy
  refine ⟨i, j, q, a, b, e, rfl, hh, hi, hj, hq, ha, hal, hb, hbl, ?_, h12, h20⟩
  unfold strB
  rw [e]
  have e0 : atI ls ([(i : Int), (j : Int)].getD 0 0) = atN ls i := rfl
  have e1 : atI ls ([(i : Int), (j : Int)].getD 1 0) = atN ls j := rfl
  rw [e0, e1, ha, hb]
  rfl
theorem str_no {ns ls : List Nd} {k : Int} (h : (atsI ns ls k).length ≠ 2) : strB ns ls k = false := by
  unfold strB; rw [decide_eq_false h]; rfl
/-- The cells of nodes a, b, q and of leads i, j. -/
theorem str_cells {w W : World} {fs : List (Nat × Nat × Value)} {b1 o1 b2 o2 : Nat} {ns ls : List Nd} (h : Held w W fs) (h1 : CellsAt W b1 o1 ns) (hb1 : b1 < W.heap.size) (h2 : CellsAt W b2 o2 ls) (hb2 : b2 < W.heap.size)
    {i j a b q : Nat} (hi : i < ls.length) (hj : j < ls.length) (ha : a < ns.length) (hb : b < ns.length) (hq : q < ns.length) :
    Held w W (fs ++ (P1 b2 o2 ls i ++ (P1 b2 o2 ls j ++ (P1 b1 o1 ns a ++ (P1 b1 o1 ns b ++ P1 b1 o1 ns q))))) :=
  ⟨h.1.append ((P1_cs h2 hi).append ((P1_cs h2 hj).append ((P1_cs h1 ha).append ((P1_cs h1 hb).append (P1_cs h1 hq))))),
   h.2.1.append ((P1_bs hb2).append ((P1_bs hb2).append ((P1_bs hb1).append ((P1_bs hb1).append (P1_bs hb1))))), h.2.2⟩

theorem deg_two (ns ls : List Nd) (k : Int) : degI ns ls k = 2 ↔ (atsI ns ls k).length = 2 := by
  unfold degI
  by_cases h : hasB ns ls k = true
  · rw [if_pos h]; omega
  · rw [if_neg h]
    unfold atsI
    rw [if_neg h]
    simp

end Go.Proofs.Ytghpbdgghliieac
