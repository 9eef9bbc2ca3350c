/-
  Without panes the middle of the glass has no weight, plainly.
-/
import Derived.Test.YtepacoacalhdcaaGreatMdl
import Derived.Test.YtepacoacalhdcaaGreatG34
namespace Go.Proofs.YtepacoacalhdcaaGreat
open Go.RowKit
set_option linter.unusedVariables false
set_option linter.unusedSimpArgs false

/-- What the dart q adds. -/
def momD (g : Nd → Int) (ns ls : List Nd) (q : Nat) : Int := (g (atI ns (dF ls q)) + g (atI ns (dT ls q))) * crossD ns ls q

theorem momL_sum (g : Nd → Int) (ns ls : List Nd) (r : List Int) : ∀ m, m ≤ r.length → momL g ns ls r m = -sumZ ((r.take m).map fun x => momD g ns ls x.toNat)
  | 0, _ => by simp [momL, sumZ]
  | m + 1, h => by
    rw [List.take_succ_eq_append_getElem (show m < r.length by omega), List.map_append, sumZ_app, atZ_get (show m < r.length by omega), momL, momL_sum g ns ls r m (by omega)]
    have e : sumZ ([atZ r m].map fun x => momD g ns ls x.toNat) = momD g ns ls (atZ r m).toNat := by simp [sumZ]
    rw [e]
    unfold momD crossD
    omega

theorem mom_twin (g : Nd → Int) (ns ls : List Nd) (k : Nat) : momD g ns ls (2 * k) + momD g ns ls (2 * k + 1) = 0 := by
  have hc := cross_twin ns ls k
  have h1 := dF_tw ls (2 * k)
  have h2 := dT_tw ls (2 * k)
  rw [show tw (2 * k) = 2 * k + 1 by unfold tw; split <;> omega] at h1 h2
  unfold momD
  rw [h1, h2, show crossD ns ls (2 * k + 1) = -crossD ns ls (2 * k) by omega, Int.mul_neg, Int.add_comm (g (atI ns (dT ls (2 * k))))]
  omega

theorem mom_all (g : Nd → Int) (ns ls : List Nd) : ∀ n, sumZ ((List.range (2 * n)).map (momD g ns ls)) = 0
  | 0 => rfl
  | n + 1 => by
    rw [show 2 * (n + 1) = 2 * n + 1 + 1 by omega, List.range_succ, List.range_succ, List.map_append, List.map_append, sumZ_app, sumZ_app, mom_all g ns ls n]
    have := mom_twin g ns ls n
    simp only [List.map_cons, List.map_nil, sumZ]
    omega

theorem sumT_up {F : Nat → Int} {k : Nat} : ∀ n, k < n → (∀ i, i < n → 0 ≤ F i) → F k ≤ sumT F n
  | 0, h, _ => by omega
  | n + 1, h, hp => by
    have h0 := (sumT_nonneg (F := F) n fun i hi => hp i (by omega)).1
    have h1 := hp n (by omega)
    rw [sumT]
    by_cases e : k = n
    · subst e; omega
    · have := sumT_up n (show k < n by omega) fun i hi => hp i (by omega)
      omega

theorem one_face {ns ls : List Nd} (hh : wholeB ns ls = true) (hz : totalW ns ls = 0) {k : Nat} (hk : k < (wF ns ls).length) : outW ns ls = (k : Int) := by
  refine Classical.byContradiction fun hne => ?_
  have h1 := inn_pos hh hk (by unfold innP; simp; omega)
  have h2 := total_inn hh
  have h3 := sumT_up (F := fun k => max 0 (arK ns ls k)) (k := k) (wF ns ls).length hk fun i _ => by omega
  rw [h2, hz] at h3
  omega

theorem mom_zero {ns ls : List Nd} (g : Nd → Int) (hh : wholeB ns ls = true) (hz : totalW ns ls = 0) : momL g ns ls (rowO ns ls) (rowO ns ls).length = 0 := by
  obtain ⟨o, ho1, ho2, hro, -⟩ := outW_facts hh
  rw [momL_sum _ _ _ _ _ (Nat.le_refl _), List.take_length, hro]
  have p := (row_perm ho2).map fun x : Int => momD g ns ls x.toNat
  rw [sumZ_perm p, List.map_map, List.filter_eq_self.2]
  · have := mom_all g ns ls ls.length
    rw [show ((fun x : Int => momD g ns ls x.toNat) ∘ fun d : Nat => (d : Int)) = momD g ns ls from by funext d; simp, this]
    rfl
  · intro d hd
    rw [List.mem_range] at hd
    obtain ⟨k, hk, hkl⟩ := at_face hh hd
    have := one_face hh hz hkl
    rw [hk, beq_iff_eq]
    omega

theorem sX_is (ns ls : List Nd) : sX ns ls = mX ns ls := by
  unfold sX mX mU
  by_cases hh : wholeB ns ls = true
  · rw [if_pos hh, if_pos hh]
    by_cases hz : totalW ns ls = 0
    · rw [if_pos (by omega), mom_zero _ hh hz]
    · rw [if_neg (by omega)]
  · rw [if_neg hh, if_neg hh, if_pos rfl]

theorem sY_is (ns ls : List Nd) : sY ns ls = mY ns ls := by
  unfold sY mY mU
  by_cases hh : wholeB ns ls = true
  · rw [if_pos hh, if_pos hh]
    by_cases hz : totalW ns ls = 0
    · rw [if_pos (by omega), mom_zero _ hh hz]
    · rw [if_neg (by omega)]
  · rw [if_neg hh, if_neg hh, if_pos rfl]
end Go.Proofs.YtepacoacalhdcaaGreat
