/-
  All areas together are 0, plainly: so a whole window has a wall around.
-/
import Derived.Test.YtmcbbjobjogkmaaGreatDual
namespace Go.Proofs.YtmcbbjobjogkmaaGreat
open Go.RowKit
set_option linter.unusedVariables false
set_option linter.unusedSimpArgs false

def sumZ : List Int → Int
  | [] => 0
  | x :: t => x + sumZ t

theorem sumZ_perm {a b : List Int} (h : a.Perm b) : sumZ a = sumZ b := by
  induction h with
  | nil => rfl
  | cons x _ ih => simp only [sumZ, ih]
  | swap x y l => simp only [sumZ]; omega
  | trans _ _ ih1 ih2 => exact ih1.trans ih2

theorem sumZ_app (a b : List Int) : sumZ (a ++ b) = sumZ a + sumZ b := by
  induction a with
  | nil => simp [sumZ]
  | cons x t ih => simp only [List.cons_append, sumZ, ih]; omega

/-- What the dart q adds to the area to its left. -/
def crossD (ns ls : List Nd) (q : Nat) : Int := (atI ns (dF ls q)).x * (atI ns (dT ls q)).y - (atI ns (dF ls q)).y * (atI ns (dT ls q)).x

theorem areaL_sum (ns ls : List Nd) (r : List Int) : ∀ m, m ≤ r.length → areaL ns ls r m = sumZ ((r.take m).map fun x => crossD ns ls x.toNat)
  | 0, _ => by simp [areaL, sumZ]
  | m + 1, h => by
    rw [List.take_succ_eq_append_getElem (show m < r.length by omega), List.map_append, sumZ_app, ← areaL_sum ns ls r m (by omega), atZ_get (show m < r.length by omega)]
    simp [areaL, sumZ, crossD]

theorem areaR_sum {ns ls : List Nd} {k : Nat} (h : k < (wF ns ls).length) : areaR ns ls (atR (wF ns ls) k) = sumZ (((List.range (2 * ls.length)).filter (fun d => atZ (atW ns ls) d == (k : Int))).map (crossD ns ls)) := by
  unfold areaR
  rw [areaL_sum _ _ _ _ (Nat.le_refl _), List.take_length]
  have p := (row_perm h).map fun x : Int => crossD ns ls x.toNat
  rw [sumZ_perm p, List.map_map]
  rfl

/-- The areas of the first K faces. -/
noncomputable def sumF (ns ls : List Nd) : Nat → Int
  | 0 => 0
  | K + 1 => sumF ns ls K + areaR ns ls (atR (wF ns ls) K)

theorem filt_succ (c : Nat → Int) (a : Nat → Int) (K : Nat) (l : List Nat) : sumZ ((l.filter (fun d => decide (a d < (K + 1 : Nat)) && decide (0 ≤ a d))).map c) = sumZ ((l.filter (fun d => decide (a d < (K : Nat)) && decide (0 ≤ a d))).map c) + sumZ ((l.filter (fun d => a d == (K : Int))).map c) := by
  induction l with
  | nil => simp [sumZ]
  | cons d t ih =>
    by_cases h1 : a d < (K : Nat) ∧ 0 ≤ a d
    · rw [List.filter_cons_of_pos (by simp; omega), List.filter_cons_of_pos (by simp; omega), List.filter_cons_of_neg (by simp; omega)]
      simp only [List.map_cons, sumZ, ih]
      omega
    · by_cases h2 : a d = (K : Nat)
      · rw [List.filter_cons_of_pos (by simp; omega), List.filter_cons_of_neg (by simp; omega), List.filter_cons_of_pos (by simp; omega)]
        simp only [List.map_cons, sumZ, ih]
        omega
      · rw [List.filter_cons_of_neg (by simp; omega), List.filter_cons_of_neg (by simp; omega), List.filter_cons_of_neg (by simp; omega)]
        exact ih

theorem sumF_filt (ns ls : List Nd) : ∀ K, K ≤ (wF ns ls).length → sumF ns ls K = sumZ (((List.range (2 * ls.length)).filter (fun d => decide (atZ (atW ns ls) d < (K : Nat)) && decide (0 ≤ atZ (atW ns ls) d))).map (crossD ns ls))
  | 0, _ => by
    unfold sumF
    rw [List.filter_eq_nil_iff.2 (fun d _ => by simp <;> omega)]
    rfl
  | K + 1, h => by
    rw [filt_succ, ← sumF_filt ns ls K (by omega), ← areaR_sum (show K < (wF ns ls).length by omega)]
    rfl

theorem cross_twin (ns ls : List Nd) (k : Nat) : crossD ns ls (2 * k) + crossD ns ls (2 * k + 1) = 0 := by
  unfold crossD dF dT
  rw [if_neg (by omega), if_neg (by omega), if_pos (by omega), if_pos (by omega), show 2 * k / 2 = k by omega, show (2 * k + 1) / 2 = k by omega]
  generalize atI ns (atN ls k).x = p
  generalize atI ns (atN ls k).y = q
  rw [Int.mul_comm q.x p.y, Int.mul_comm q.y p.x]
  omega

theorem cross_all (ns ls : List Nd) : ∀ n, sumZ ((List.range (2 * n)).map (crossD ns ls)) = 0
  | 0 => rfl
  | n + 1 => by
    rw [show 2 * (n + 1) = 2 * n + 1 + 1 by omega, List.range_succ, List.range_succ, List.map_append, List.map_append, sumZ_app, sumZ_app, cross_all ns ls n]
    have := cross_twin ns ls n
    simp only [List.map_cons, List.map_nil, sumZ]
    omega

theorem sumF_all {ns ls : List Nd} (hh : wholeB ns ls = true) : sumF ns ls (wF ns ls).length = 0 := by
  rw [sumF_filt _ _ _ (Nat.le_refl _), List.filter_eq_self.2, cross_all]
  intro d hd
  rw [List.mem_range] at hd
  have h1 := (atW_face (whole_win hh).1 hd).2
  have h2 := atW_at (ns := ns) hd
  have hW : wF ns ls = facesL ns ls := if_pos hh
  rw [h2, hW]
  simp
  omega

theorem sumF_pos (ns ls : List Nd) : ∀ K, (∀ k, k < K → 0 < areaR ns ls (atR (wF ns ls) k)) → (K : Int) ≤ sumF ns ls K
  | 0, _ => by simp [sumF]
  | K + 1, h => by
    have ih := sumF_pos ns ls K fun k hk => h k (by omega)
    have := h K (by omega)
    unfold sumF
    omega

theorem wF_pos {ns ls : List Nd} (hh : wholeB ns ls = true) : 0 < (wF ns ls).length := by
  obtain ⟨hw, hl0, -, -⟩ := whole_win hh
  rw [wF_whole hh]
  exact starts_pos hw hl0

/-- A whole window has a wall around. -/
theorem outW_is {ns ls : List Nd} (hh : wholeB ns ls = true) : ∃ o : Nat, outW ns ls = (o : Int) ∧ o < (wF ns ls).length := by
  rcases firstI_cases (outP ns ls (wF ns ls)) (wF ns ls).length with ⟨h1, h2⟩ | ⟨m, h1, h2, _, _⟩
  · exfalso
    have h3 := sumF_pos ns ls (wF ns ls).length fun k hk => by
      have := h2 k hk
      unfold outP at this
      rw [decide_eq_false_iff_not] at this
      omega
    rw [sumF_all hh] at h3
    have := wF_pos hh
    omega
  · exact ⟨m, h1, h2⟩
end Go.Proofs.YtmcbbjobjogkmaaGreat
