/-
  Light, plainly: a sum over the faces in any order, and the brightest face.
-/
import Derived.Test.YtepacoacalhdcaaGreatG42
import Derived.Test.YtepacoacalhdcaaGreatCol
namespace Go.Proofs.YtepacoacalhdcaaGreat
open Go.RowKit
set_option linter.unusedVariables false
set_option linter.unusedSimpArgs false

/-- Are these the stains of the faces of a whole window? -/
noncomputable def lgtB (ns ls : List Nd) (xs : List Tr) : Bool := wholeB ns ls && (decide (xs.length = (wF ns ls).length) && stsB xs)

theorem lgtB_parts {ns ls : List Nd} {xs : List Tr} (h : lgtB ns ls xs = true) : wholeB ns ls = true ∧ xs.length = (wF ns ls).length ∧ ∀ k, k < xs.length → stainB (atT xs k) = true := by
  unfold lgtB at h
  simp only [Bool.and_eq_true, decide_eq_true_eq] at h
  refine ⟨h.1, h.2.1, fun k hk => ?_⟩
  refine Classical.byContradiction fun hn => ?_
  have := stsB_no hk (by simpa using hn)
  rw [h.2.2] at this
  cases this

noncomputable def innN (ns ls : List Nd) : List Nat := (List.range (wF ns ls).length).filter (innP (outW ns ls))

theorem fltN_range (p : Nat → Bool) : ∀ n, fltN p n = ((List.range n).filter p).map fun k : Nat => (k : Int)
  | 0 => rfl
  | n + 1 => by
    rw [fltN_succ, List.range_succ, List.filter_append, List.map_append, ← fltN_range p n]
    cases h : p n <;> simp [List.filter_cons, h]

theorem innW_is (ns ls : List Nd) : innW ns ls = (innN ns ls).map fun k : Nat => (k : Int) := fltN_range _ _

theorem innN_mem {ns ls : List Nd} {k : Nat} : k ∈ innN ns ls ↔ k < (wF ns ls).length ∧ innP (outW ns ls) k = true := by
  unfold innN
  rw [List.mem_filter, List.mem_range]

theorem innN_nodup (ns ls : List Nd) : (innN ns ls).Nodup := List.nodup_range.filter _

theorem innN_len (ns ls : List Nd) : (innN ns ls).length = (innW ns ls).length := by rw [innW_is, List.length_map]

/-- What the face k gives, of the wall around nothing. -/
noncomputable def ligT (ns ls : List Nd) (xs : List Tr) (g : Tr → Int) (k : Nat) : Int := if innP (outW ns ls) k = true then areaW ns ls (k : Int) * g (atT xs k) else 0

/-- The sum over what is no longer to come. -/
def ligL (T : Nat → Int) (n : Nat) (left : Nat → Bool) : Int := sumT (fun k => if left k = true then 0 else T k) n

theorem sumT_flip {F G : Nat → Int} {k n : Nat} (hk : k < n) (h : ∀ i, i < n → i ≠ k → G i = F i) (h0 : F k = 0) : sumT G n = sumT F n + G k := by
  have e : sumT G n = sumT (fun i => F i + (if i = k then G k else 0)) n := sumT_congr n fun i hi => by
    by_cases c : i = k
    · subst c; rw [if_pos rfl, h0]; omega
    · rw [if_neg c, h i hi c]; omega
  rw [e, sumT_add, sumT_one (x := k) n hk (fun i _ hne => if_neg hne), if_pos rfl]

theorem ligL_start {T : Nat → Int} {n : Nat} {left : Nat → Bool} (h : ∀ k, k < n → left k = true ∨ T k = 0) : ligL T n left = 0 := sumT_zero n fun k hk => by
  rcases h k hk with e | e
  · rw [if_pos e]
  · split
    · rfl
    · exact e

theorem ligL_step {T : Nat → Int} {n k : Nat} {left left' : Nat → Bool} (hk : k < n) (hl : left k = true) (h : ∀ i, left' i = (left i && !decide (i = k))) : ligL T n left' = ligL T n left + T k := by
  unfold ligL
  rw [sumT_flip (F := fun i => if left i = true then 0 else T i) hk (fun i hi hne => by simp only [h i, decide_eq_false hne]; simp) (by simp only [hl]; simp)]
  simp only [h k]
  simp

theorem ligL_end {T : Nat → Int} {n : Nat} {left : Nat → Bool} (h : ∀ k, left k = false) : ligL T n left = sumT T n := sumT_congr n fun k _ => by simp only [h k]; simp

theorem ligL_bd {T : Nat → Int} {n : Nat} {c : Int} (left : Nat → Bool) (hc : 0 ≤ c) (h : ∀ k, k < n → 0 ≤ T k ∧ T k ≤ c) : 0 ≤ ligL T n left ∧ ligL T n left ≤ c * n := sumT_bd n fun k hk => by
  have := h k hk
  split <;> omega

/-- A color of a stain, or their sum. -/
def Shade (g : Tr → Int) (c : Int) : Prop := ∀ t, stainB t = true → 0 ≤ g t ∧ g t ≤ c

theorem stain_in {t : Tr} (h : stainB t = true) : (0 ≤ t.x ∧ t.x ≤ 1000) ∧ (0 ≤ t.y ∧ t.y ≤ 1000) ∧ (0 ≤ t.z ∧ t.z ≤ 1000) := (triB_iff _ _ _ _ _ _ _).1 h

theorem shadeX : Shade Tr.x 1000 := fun t h => (stain_in h).1

theorem shadeY : Shade Tr.y 1000 := fun t h => (stain_in h).2.1

theorem shadeZ : Shade Tr.z 1000 := fun t h => (stain_in h).2.2

def sumS (t : Tr) : Int := t.x + t.y + t.z

theorem shadeS : Shade sumS 3000 := fun t h => by
  obtain ⟨a, b, c⟩ := stain_in h
  unfold sumS
  omega

theorem shade_mul {a s c : Int} (h1 : 0 ≤ a ∧ a ≤ 16000) (h2 : 0 ≤ s ∧ s ≤ c) : 0 ≤ a * s ∧ a * s ≤ 16000 * c := by
  refine ⟨Int.mul_nonneg h1.1 h2.1, ?_⟩
  exact Int.mul_le_mul h1.2 h2.2 h2.1 (by omega)

theorem ligT_bd {ns ls : List Nd} {xs : List Tr} {g : Tr → Int} {c : Int} (hg : Shade g c) (hc : 0 ≤ c) (hb : lgtB ns ls xs = true) {k : Nat} (hk : k < (wF ns ls).length) : 0 ≤ ligT ns ls xs g k ∧ ligT ns ls xs g k ≤ 16000 * c := by
  obtain ⟨hh, hl, hs⟩ := lgtB_parts hb
  have h1 := area_nnB (ns := ns) (ls := ls) ((idxB_iff _ _).2 (show 0 ≤ (k : Int) ∧ (k : Int) < ((wF ns ls).length : Int) by omega))
  have h2 := shade_mul h1 (hg _ (hs k (by omega)))
  have h3 : 0 ≤ 16000 * c := by omega
  unfold ligT
  split <;> omega

noncomputable def ligF (ns ls : List Nd) (xs : List Tr) (g : Tr → Int) (n : Nat) : Int := sumT (ligT ns ls xs g) n

noncomputable def ligW (ns ls : List Nd) (xs : List Tr) (g : Tr → Int) : Int := if lgtB ns ls xs = true then ligF ns ls xs g (wF ns ls).length else 0

theorem ligF_bd {ns ls : List Nd} {xs : List Tr} {g : Tr → Int} {c : Int} (hg : Shade g c) (hc : 0 ≤ c) (hb : lgtB ns ls xs = true) {n : Nat} (hn : n ≤ (wF ns ls).length) : 0 ≤ ligF ns ls xs g n ∧ ligF ns ls xs g n ≤ 208000 * c := by
  have h13 := wF_thirteen ns ls
  have := sumT_bd (F := ligT ns ls xs g) (c := 16000 * c) n fun k hk => ligT_bd hg hc hb (by omega)
  have h2 : 16000 * c * (n : Int) ≤ 16000 * c * 13 := Int.mul_le_mul_of_nonneg_left (by omega) (by omega)
  unfold ligF
  omega

theorem ligW_bd {ns ls : List Nd} {xs : List Tr} {g : Tr → Int} {c : Int} (hg : Shade g c) (hc : 0 ≤ c) : 0 ≤ ligW ns ls xs g ∧ ligW ns ls xs g ≤ 208000 * c := by
  unfold ligW
  split
  · rename_i h
    exact ligF_bd hg hc h (Nat.le_refl _)
  · omega

/-! ### the brightest face -/

/-- b is the first of the faces in p with the greatest T. -/
def Best (p : Nat → Bool) (T : Nat → Int) (n : Nat) (b m : Int) : Prop :=
  (b = -1 ∧ m = -1 ∧ ∀ k, k < n → p k = false) ∨ ∃ j : Nat, j < n ∧ p j = true ∧ b = (j : Int) ∧ m = T j ∧ ∀ k, k < n → p k = true → T k < T j ∨ (T k = T j ∧ j ≤ k)

theorem Best.one {p : Nat → Bool} {T : Nat → Int} {n : Nat} {b m b' m' : Int} (h : Best p T n b m) (h' : Best p T n b' m') : b = b' ∧ m = m' := by
  rcases h with ⟨rfl, rfl, h1⟩ | ⟨j, h1, h2, rfl, rfl, h3⟩
  · rcases h' with ⟨rfl, rfl, h4⟩ | ⟨i, h4, h5, rfl, rfl, h6⟩
    · exact ⟨rfl, rfl⟩
    · rw [h1 i h4] at h5; cases h5
  · rcases h' with ⟨rfl, rfl, h4⟩ | ⟨i, h4, h5, rfl, rfl, h6⟩
    · rw [h4 j h1] at h2; cases h2
    · have a := h3 i h4 h5
      have b := h6 j h1 h2
      have e : i = j := by omega
      subst e
      exact ⟨rfl, rfl⟩

theorem Best.none_ {p : Nat → Bool} {T : Nat → Int} {n : Nat} (h : ∀ k, k < n → p k = false) : Best p T n (-1) (-1) := .inl ⟨rfl, rfl, h⟩

/-- One face more, wherever it comes. -/
theorem Best.more {p p' : Nat → Bool} {T : Nat → Int} {n k : Nat} {b m : Int} (h : Best p T n b m) (hk : k < n) (h0 : 0 ≤ T k) (hp : ∀ i, p' i = (p i || decide (i = k))) :
    Best p' T n (if m < T k ∨ (T k = m ∧ (k : Int) < b) then (k : Int) else b) (if m < T k ∨ (T k = m ∧ (k : Int) < b) then T k else m) := by
  have hpk : p' k = true := by rw [hp]; simp
  rcases h with ⟨rfl, rfl, h1⟩ | ⟨j, h1, h2, rfl, rfl, h3⟩
  · rw [if_pos (.inl (by omega)), if_pos (.inl (by omega))]
    refine .inr ⟨k, hk, hpk, rfl, rfl, fun i hi hpi => ?_⟩
    rw [hp, h1 i hi] at hpi
    have : i = k := by simpa using hpi
    subst this
    exact .inr ⟨rfl, Nat.le_refl _⟩
  · by_cases c : T j < T k ∨ (T k = T j ∧ (k : Int) < (j : Int))
    · rw [if_pos c, if_pos c]
      refine .inr ⟨k, hk, hpk, rfl, rfl, fun i hi hpi => ?_⟩
      rw [hp, Bool.or_eq_true] at hpi
      rcases hpi with hpi | hpi
      · have := h3 i hi hpi
        omega
      · have : i = k := by simpa using hpi
        subst this
        exact .inr ⟨rfl, Nat.le_refl _⟩
    · rw [if_neg c, if_neg c]
      refine .inr ⟨j, h1, by rw [hp, h2]; rfl, rfl, rfl, fun i hi hpi => ?_⟩
      rw [hp, Bool.or_eq_true] at hpi
      rcases hpi with hpi | hpi
      · exact h3 i hi hpi
      · have : i = k := by simpa using hpi
        subst this
        omega

/-- The faces in their order: the first one of the greatest. -/
def brS (p : Nat → Bool) (T : Nat → Int) : Nat → Int × Int
  | 0 => (-1, -1)
  | k + 1 => if p k = true ∧ (brS p T k).2 < T k then ((k : Int), T k) else brS p T k

theorem brS_best {p : Nat → Bool} {T : Nat → Int} (n : Nat) : ∀ k, k ≤ n → (∀ i, i < n → p i = true → 0 ≤ T i) → Best (fun i => p i && decide (i < k)) T n (brS p T k).1 (brS p T k).2
  | 0, _, _ => Best.none_ fun i _ => by simp
  | k + 1, hk, hT => by
    have ih := brS_best n k (by omega) hT
    unfold brS
    by_cases hp : p k = true
    · have h2 := ih.more (p' := fun i => p i && decide (i < k + 1)) (k := k) (by omega) (hT k (by omega) hp) fun i => by
        by_cases e : i = k
        · subst e; simp [hp]
        · have : decide (i < k + 1) = decide (i < k) := decide_eq_decide.2 (by omega)
          simp [e, this]
      have h4 : ¬ (T k = (brS p T k).2 ∧ (k : Int) < (brS p T k).1) := by
        rintro ⟨-, h5⟩
        rcases ih with ⟨e1, -, -⟩ | ⟨j, -, h6, e1, -, -⟩
        · rw [e1] at h5; omega
        · simp at h6; omega
      by_cases c : (brS p T k).2 < T k
      · rw [if_pos (.inl c), if_pos (.inl c)] at h2
        rw [if_pos ⟨hp, c⟩]
        exact h2
      · rw [if_neg (by rintro (h | h); exact c h; exact h4 h), if_neg (by rintro (h | h); exact c h; exact h4 h)] at h2
        rw [if_neg (fun h => c h.2)]
        exact h2
    · rw [if_neg (fun h => hp h.1)]
      have e : (fun i => p i && decide (i < k + 1)) = fun i => p i && decide (i < k) := by
        funext i
        by_cases e : i = k
        · subst e; simp [hp]
        · rw [show decide (i < k + 1) = decide (i < k) from decide_eq_decide.2 (by omega)]
      rw [e]
      exact ih

noncomputable def briW (ns ls : List Nd) (xs : List Tr) : Int := if lgtB ns ls xs = true then (brS (innP (outW ns ls)) (ligT ns ls xs sumS) (wF ns ls).length).1 else -1
end Go.Proofs.YtepacoacalhdcaaGreat
