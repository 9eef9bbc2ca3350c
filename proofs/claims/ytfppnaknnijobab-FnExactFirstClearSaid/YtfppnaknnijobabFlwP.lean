/-
  Sheets with flaws, plainly: which spots a rectangle covers, which places are clear.
-/
import Derived.Test.YtfppnaknnijobabShe
import Derived.Test.YtfppnaknnijobabFlawO
namespace Go.Proofs.Ytfppnaknnijobab
open Go.RowKit
set_option linter.unusedVariables false
set_option linter.unusedSimpArgs false

/-- Does the rectangle p at a cover the spot n? -/
def covB (a p n : Nd) : Bool := decide ((a.x ≤ n.x ∧ n.x - a.x < p.x) ∧ (a.y ≤ n.y ∧ n.y - a.y < p.y))
theorem covB_iff (a p n : Nd) : covB a p n = true ↔ (a.x ≤ n.x ∧ n.x - a.x < p.x) ∧ (a.y ≤ n.y ∧ n.y - a.y < p.y) := by simp [covB]
theorem covB_no (a p n : Nd) : covB a p n = false ↔ ¬ ((a.x ≤ n.x ∧ n.x - a.x < p.x) ∧ (a.y ≤ n.y ∧ n.y - a.y < p.y)) := by
  rw [← covB_iff]; simp
structure FlwP (s : Nd) (xs : List Nd) : Prop where
  sh : shB s = true
  few : xs.length ≤ 12
  on : ∀ k, k < xs.length → covB ⟨0, 0⟩ s (atN xs k) = true
open Classical in
noncomputable def flwB (s : Nd) (xs : List Nd) : Bool := decide (FlwP s xs)
theorem flwB_iff (s : Nd) (xs : List Nd) : flwB s xs = true ↔ FlwP s xs := by unfold flwB; simp
theorem flwB_no {s : Nd} {xs : List Nd} (h : ¬ FlwP s xs) : flwB s xs = false := by
  by_cases hr : flwB s xs = true
  · exact absurd ((flwB_iff s xs).1 hr) h
  · simpa using hr
theorem flw_bd {s : Nd} {xs : List Nd} (h : flwB s xs = true) : (1 ≤ s.x ∧ s.x ≤ 40) ∧ (1 ≤ s.y ∧ s.y ≤ 40) ∧ xs.length ≤ 12 ∧ ∀ k, k < xs.length → (0 ≤ (atN xs k).x ∧ (atN xs k).x < 40) ∧ (0 ≤ (atN xs k).y ∧ (atN xs k).y < 40) := by
  have h := (flwB_iff s xs).1 h
  have h1 := (shB_iff s).1 h.sh
  refine ⟨h1.1, h1.2, h.few, fun k hk => ?_⟩
  have h2 := (covB_iff _ _ _).1 (h.on k hk)
  simp only at h2
  omega
/-- Are none of the spots covered? -/
def clrB (a p : Nd) (xs : List Nd) : Bool := xs.all fun n => !covB a p n
theorem clrB_iff (a p : Nd) (xs : List Nd) : clrB a p xs = true ↔ ∀ k, k < xs.length → covB a p (atN xs k) = false := by
  unfold clrB
  rw [List.all_eq_true]
  constructor
  · intro h k hk
    have := h _ (atN_mem hk)
    simpa using this
  · intro h n hn
    obtain ⟨k, hk, rfl⟩ := List.getElem_of_mem hn
    rw [atN_get hk, h k hk]
    rfl
theorem clrB_no {a p : Nd} {xs : List Nd} {k : Nat} (hk : k < xs.length) (h : covB a p (atN xs k) = true) : clrB a p xs = false := by
  by_cases hr : clrB a p xs = true
  · have := (clrB_iff a p xs).1 hr k hk
    rw [h] at this
    cases this
  · simpa using hr
/-- Does no earlier spot equal number k? -/
def fstB (xs : List Nd) (k : Nat) : Bool := (List.range k).all fun i => atN xs i != atN xs k
theorem fstB_iff (xs : List Nd) (k : Nat) : fstB xs k = true ↔ ∀ i, i < k → atN xs i ≠ atN xs k := by
  unfold fstB
  rw [List.all_eq_true]
  constructor
  · intro h i hi
    have := h i (List.mem_range.2 hi)
    simpa using this
  · intro h i hi
    have := h i (List.mem_range.1 hi)
    simpa using this
def cntS (a p : Nd) (xs : List Nd) : Nat → Nat
  | 0 => 0
  | n + 1 => if (fstB xs n && covB a p (atN xs n)) = true then cntS a p xs n + 1 else cntS a p xs n
theorem cntS_succ (a p : Nd) (xs : List Nd) (n : Nat) : cntS a p xs (n + 1) = if (fstB xs n && covB a p (atN xs n)) = true then cntS a p xs n + 1 else cntS a p xs n := rfl
theorem cntS_le (a p : Nd) (xs : List Nd) : ∀ n, cntS a p xs n ≤ n
  | 0 => Nat.le_refl _
  | n + 1 => by
    have := cntS_le a p xs n
    rw [cntS_succ]
    split <;> omega
theorem cntS_zero (a p : Nd) (xs : List Nd) : ∀ n, cntS a p xs n = 0 ↔ ∀ k, k < n → covB a p (atN xs k) = false
  | 0 => by simp [cntS]
  | n + 1 => by
    have ih := cntS_zero a p xs n
    rw [cntS_succ]
    constructor
    · intro h k hk
      by_cases hc : (fstB xs n && covB a p (atN xs n)) = true
      · rw [if_pos hc] at h; omega
      · rw [if_neg hc] at h
        have hp := ih.1 h
        by_cases hkn : k < n
        · exact hp k hkn
        · have : k = n := by omega
          subst this
          by_cases hcv : covB a p (atN xs k) = true
          · rw [hcv, Bool.and_true] at hc
            have hf : ¬ ∀ i, i < k → atN xs i ≠ atN xs k := fun h => hc ((fstB_iff xs k).2 h)
            have : ∃ i, i < k ∧ atN xs i = atN xs k := Classical.byContradiction fun hn => hf fun i hi he => hn ⟨i, hi, he⟩
            obtain ⟨i, hi, he⟩ := this
            have := hp i hi
            rw [he, hcv] at this
            cases this
          · simpa using hcv
    · intro h
      rw [if_neg (by rw [h n (by omega)]; simp)]
      exact ih.2 fun k hk => h k (by omega)
noncomputable def spotsI (s : Nd) (xs : List Nd) (a p : Nd) : Int := if flwB s xs && (inB a.x (-1000) 1000 && inB a.y (-1000) 1000) then ((cntS a p xs xs.length : Nat) : Int) else 0
noncomputable def isClrB (s : Nd) (xs : List Nd) (a p : Nd) : Bool := flwB s xs && shB p && inB a.x 0 (s.x - p.x) && inB a.y 0 (s.y - p.y) && clrB a p xs
theorem clr_cnt (a p : Nd) (xs : List Nd) : clrB a p xs = decide (cntS a p xs xs.length = 0) := by
  rw [Bool.eq_iff_iff, clrB_iff, decide_eq_true_iff, cntS_zero]
/-- The place r is the first clear one (b), or there is none. -/
def FcIs (s p : Nd) (xs : List Nd) (r : Nd) (b : Bool) : Prop :=
  (b = true ∧ clrB r p xs = true ∧ (0 ≤ r.x ∧ r.x ≤ s.x - p.x) ∧ (0 ≤ r.y ∧ r.y ≤ s.y - p.y) ∧ ∀ u v : Int, 0 ≤ u → u ≤ s.x - p.x → 0 ≤ v → (v < r.y ∨ v = r.y ∧ u < r.x) → clrB ⟨u, v⟩ p xs = false) ∨
  (b = false ∧ r = ⟨0, 0⟩ ∧ ∀ u v : Int, 0 ≤ u → u ≤ s.x - p.x → 0 ≤ v → v ≤ s.y - p.y → clrB ⟨u, v⟩ p xs = false)
theorem FcIs.same {s p : Nd} {xs : List Nd} {r r' : Nd} {b b' : Bool} (h : FcIs s p xs r b) (h' : FcIs s p xs r' b') : r = r' ∧ b = b' := by
  obtain ⟨x, y⟩ := r
  obtain ⟨x', y'⟩ := r'
  rcases h with ⟨rfl, hc, hx, hy, hn⟩ | ⟨rfl, hr, hn⟩
  · rcases h' with ⟨rfl, hc', hx', hy', hn'⟩ | ⟨rfl, hr', hn'⟩
    · simp only at hx hy hx' hy' hn hn'
      have e1 : ¬ (y < y' ∨ y = y' ∧ x < x') := fun h => by have := hn' x y hx.1 hx.2 hy.1 h; rw [hc] at this; cases this
      have e2 : ¬ (y' < y ∨ y' = y ∧ x' < x) := fun h => by have := hn x' y' hx'.1 hx'.2 hy'.1 h; rw [hc'] at this; cases this
      have e3 : y = y' := by omega
      have e4 : x = x' := by omega
      rw [e3, e4]
      exact ⟨rfl, rfl⟩
    · simp only at hx hy hn
      have := hn' x y hx.1 hx.2 hy.1 hy.2
      rw [hc] at this
      cases this
  · rcases h' with ⟨rfl, hc', hx', hy', hn'⟩ | ⟨rfl, hr', hn'⟩
    · simp only at hx' hy' hn'
      have := hn x' y' hx'.1 hx'.2 hy'.1 hy'.2
      rw [hc'] at this
      cases this
    · exact ⟨hr.trans hr'.symm, rfl⟩
/-- Is there a clear place for a rectangle of these sides? -/
def HasC (s p : Nd) (xs : List Nd) : Prop := ∃ u v : Int, (0 ≤ u ∧ u ≤ s.x - p.x) ∧ (0 ≤ v ∧ v ≤ s.y - p.y) ∧ clrB ⟨u, v⟩ p xs = true
open Classical in
noncomputable def hasC (s p : Nd) (xs : List Nd) : Bool := decide (HasC s p xs)
open Classical in
theorem FcIs.has {s p : Nd} {xs : List Nd} {r : Nd} {b : Bool} (h : FcIs s p xs r b) : b = hasC s p xs := by
  unfold hasC
  rcases h with ⟨rfl, hc, hx, hy, hn⟩ | ⟨rfl, hr, hn⟩
  · exact (decide_eq_true ⟨r.x, r.y, hx, hy, hc⟩).symm
  · refine (decide_eq_false fun ⟨u, v, hu, hv, h⟩ => ?_).symm
    have := hn u v hu.1 hu.2 hv.1 hv.2
    rw [h] at this
    cases this
/-- The largest area, from best on, of the clear rectangles of height h and a width up to n. -/
noncomputable def lgRow (s : Nd) (xs : List Nd) (best h : Int) : Nat → Int
  | 0 => best
  | n + 1 => if lgRow s xs best h n < ((n : Int) + 1) * h ∧ hasC s ⟨(n : Int) + 1, h⟩ xs = true then ((n : Int) + 1) * h else lgRow s xs best h n
noncomputable def lgAll (s : Nd) (xs : List Nd) : Nat → Int
  | 0 => 0
  | n + 1 => lgRow s xs (lgAll s xs n) ((n : Int) + 1) s.x.toNat
noncomputable def lgI (s : Nd) (xs : List Nd) : Int := if flwB s xs = true then lgAll s xs s.y.toNat else 0
end Go.Proofs.Ytfppnaknnijobab
