/-
  A whole window that knows its faces, plainly: which face lies to the left of each dart.
-/
import Derived.Test.YtepacoacalhdcaaGreatRowsP
import Derived.Test.YtepacoacalhdcaaGreatWhole
import Derived.Test.YtepacoacalhdcaaGreatG2
namespace Go.Proofs.YtepacoacalhdcaaGreat
open Go.RowKit
set_option linter.unusedVariables false
set_option linter.unusedSimpArgs false

/-- The first place before n at which p holds, or -1. -/
def firstI (p : Nat → Bool) : Nat → Int
  | 0 => -1
  | n + 1 => if 0 ≤ firstI p n then firstI p n else if p n = true then (n : Int) else -1

theorem firstI_none {p : Nat → Bool} : ∀ n, (∀ j, j < n → p j = false) → firstI p n = -1
  | 0, _ => rfl
  | n + 1, h => by
    have ih := firstI_none n fun j hj => h j (by omega)
    unfold firstI
    rw [ih, if_neg (by omega), if_neg (by rw [h n (by omega)]; simp)]

theorem firstI_at {p : Nat → Bool} {m : Nat} (hb : ∀ j, j < m → p j = false) (hp : p m = true) : ∀ n, m < n → firstI p n = (m : Int)
  | 0, h => by omega
  | n + 1, h => by
    unfold firstI
    by_cases e : m = n
    · subst e
      rw [firstI_none m hb, if_neg (by omega), if_pos hp]
    · rw [firstI_at hb hp n (by omega), if_pos (by omega)]

theorem firstI_cases (p : Nat → Bool) : ∀ n, (firstI p n = -1 ∧ ∀ j, j < n → p j = false) ∨ ∃ m : Nat, firstI p n = (m : Int) ∧ m < n ∧ p m = true ∧ ∀ j, j < m → p j = false
  | 0 => .inl ⟨rfl, fun j h => by omega⟩
  | n + 1 => by
    rcases firstI_cases p n with ⟨h1, h2⟩ | ⟨m, h1, h2, h3, h4⟩
    · by_cases hp : p n = true
      · exact .inr ⟨n, firstI_at h2 hp (n + 1) (by omega), by omega, hp, h2⟩
      · refine .inl ⟨firstI_none _ fun j hj => ?_, fun j hj => ?_⟩
        all_goals
          by_cases e : j = n
          · subst e; simpa using hp
          · exact h2 j (by omega)
    · exact .inr ⟨m, firstI_at h4 h3 (n + 1) (by omega), by omega, h3, h4⟩

theorem firstI_congr {p q : Nat → Bool} : ∀ n, (∀ j, j < n → p j = q j) → firstI p n = firstI q n
  | 0, _ => rfl
  | n + 1, h => by
    unfold firstI
    rw [firstI_congr n fun j hj => h j (by omega), h n (by omega)]

/-- The face that holds a dart. -/
def faceI (rs : List (List Int)) (x : Int) : Int := firstI (fun k => (atR rs k).contains x) rs.length

theorem fIx_at {rs : List (List Int)} {x : Int} (h : seenB rs x = true) : (atR rs (fIx rs x)).contains x = true ∧ ∀ j, j < fIx rs x → (atR rs j).contains x = false := by
  induction rs with
  | nil => simp [seenB] at h
  | cons a t ih =>
    simp only [fIx]
    by_cases e : a.contains x = true
    · rw [if_pos e]
      exact ⟨e, fun j hj => by omega⟩
    · rw [if_neg e]
      have e' : a.contains x = false := by simpa using e
      have h' : seenB t x = true := by
        unfold seenB at h ⊢
        rw [List.any_cons, e', Bool.false_or] at h
        exact h
      obtain ⟨h1, h2⟩ := ih h'
      refine ⟨by simpa [atR] using h1, fun j hj => ?_⟩
      match j with
      | 0 => simpa [atR] using e'
      | j + 1 => simpa [atR] using h2 j (by omega)

theorem faceI_seen {rs : List (List Int)} {x : Int} (h : seenB rs x = true) : faceI rs x = (fIx rs x : Nat) := by
  obtain ⟨h1, h2⟩ := fIx_at h
  exact firstI_at h2 h1 _ (fIx_lt h)

theorem faceI_unseen {rs : List (List Int)} {x : Int} (h : seenB rs x = false) : faceI rs x = -1 := by
  refine firstI_none _ fun j hj => ?_
  rw [Bool.eq_false_iff]
  intro hc
  have : seenB rs x = true := (seenB_iff rs x).2 ⟨atR rs j, by rw [← atR_get hj]; exact List.getElem_mem hj, by simpa using hc⟩
  rw [h] at this
  cases this

noncomputable def wF (ns ls : List Nd) : List (List Int) := if wholeB ns ls = true then facesL ns ls else []

noncomputable def atW (ns ls : List Nd) : List Int := (List.range (2 * ls.length)).map fun d : Nat => ((fIx (facesL ns ls) (d : Int) : Nat) : Int)

theorem atW_len (ns ls : List Nd) : (atW ns ls).length = 2 * ls.length := by simp [atW]

theorem atW_at {ns ls : List Nd} {d : Nat} (h : d < 2 * ls.length) : atZ (atW ns ls) d = ((fIx (facesL ns ls) (d : Int) : Nat) : Int) := by simp [atZ, atW, List.getD, h]

theorem whole_win {ns ls : List Nd} (h : wholeB ns ls = true) : winB ns ls = true ∧ 0 < ls.length ∧ ls.length ≤ 20 ∧ ns.length ≤ 12 := by
  unfold wholeB at h
  simp only [Bool.and_eq_true, decide_eq_true_eq] at h
  have hw := ((winB_iff ns ls).1 h.1.1).1
  exact ⟨h.1.1, h.1.2, hw.2, hw.1.2⟩

theorem atW_face {ns ls : List Nd} (hw : winB ns ls = true) {d : Nat} (h : d < 2 * ls.length) : atZ (atW ns ls) d = faceI (facesL ns ls) d ∧ fIx (facesL ns ls) (d : Int) < (facesL ns ls).length := by
  have hs := faces_all hw (2 * ls.length) d (Nat.le_refl _) h
  exact ⟨by rw [atW_at h]; exact (faceI_seen hs).symm, fIx_lt hs⟩

theorem faces_len (ns ls : List Nd) : (facesL ns ls).length ≤ 2 * ls.length := by
  unfold facesL
  rw [facesN_len]
  exact startsL_len ns ls _

theorem wF_len {ns ls : List Nd} : (wF ns ls).length ≤ 40 := by
  unfold wF
  split
  · rename_i h
    have := faces_len ns ls
    have := (whole_win h).2.2.1
    omega
  · simp

theorem wF_row {ns ls : List Nd} {k : Nat} (h : k < (wF ns ls).length) : wholeB ns ls = true ∧ ∃ d : Nat, d < 2 * ls.length ∧ atR (wF ns ls) k = walkN ns ls d ∧ d = (startsL ns ls (2 * ls.length)).getD k 0 := by
  unfold wF at h ⊢
  by_cases hw : wholeB ns ls = true
  · rw [if_pos hw] at h ⊢
    refine ⟨hw, _, ?_, facesN_atR h, rfl⟩
    have h2 : k < (startsL ns ls (2 * ls.length)).length := by unfold facesL at h; rwa [facesN_len] at h
    have : (startsL ns ls (2 * ls.length)).getD k 0 ∈ startsL ns ls (2 * ls.length) := by simp [List.getD, h2]
    exact startsL_lt ns ls _ _ this
  · rw [if_neg hw] at h; simp at h

/-- A dart that a face holds is a dart of the window. -/
theorem wF_dart {ns ls : List Nd} {x : Int} (h : seenB (wF ns ls) x = true) : wholeB ns ls = true ∧ ∃ q : Nat, x = q ∧ q < 2 * ls.length := by
  unfold wF at h
  by_cases hw : wholeB ns ls = true
  · rw [if_pos hw] at h
    obtain ⟨r, hr, hx⟩ := (seenB_iff _ _).1 h
    exact ⟨hw, facesN_darts (whole_win hw).1 _ (Nat.le_refl _) r hr x hx⟩
  · rw [if_neg hw] at h; simp [seenB] at h

/-- What is stored after the first k faces, and i darts of the next one. -/
def fillF (rs : List (List Int)) (k i : Nat) (d : Nat) : Int := if seenB (rs.take k) (d : Int) = true ∨ ((atR rs k).take i).contains (d : Int) = true then ((fIx rs (d : Int) : Nat) : Int) else 0

theorem take_seen {rs : List (List Int)} {k : Nat} (h : k < rs.length) (x : Int) : seenB (rs.take (k + 1)) x = (seenB (rs.take k) x || (atR rs k).contains x) := by
  rw [List.take_succ_eq_append_getElem h, seenB_app, atR_get h]

theorem fillF_next {rs : List (List Int)} {k : Nat} (h : k < rs.length) (d : Nat) : fillF rs k (atR rs k).length d = fillF rs (k + 1) 0 d := by
  unfold fillF
  rw [take_seen h, List.take_length]
  simp

theorem take_has {l : List Int} {i : Nat} (h : i < l.length) (x : Int) : (l.take (i + 1)).contains x = ((l.take i).contains x || (x == atZ l i)) := by
  rw [List.take_succ_eq_append_getElem h, atZ_get h]
  rw [Bool.eq_iff_iff]
  simp

theorem fillF_store {rs : List (List Int)} {k i q : Nat} (hi : i < (atR rs k).length) (hq : atZ (atR rs k) i = (q : Int)) (hf : fIx rs (q : Int) = k) (d : Nat) : (if d = q then (k : Int) else fillF rs k i d) = fillF rs k (i + 1) d := by
  unfold fillF
  rw [take_has hi, hq]
  by_cases e : d = q
  · subst e
    rw [if_pos rfl, if_pos (by simp), hf]
  · rw [if_neg e]
    have : ((d : Int) == (q : Int)) = false := by rw [beq_eq_false_iff_ne]; omega
    rw [this, Bool.or_false]

theorem fillF_zero (rs : List (List Int)) (d : Nat) : fillF rs 0 0 d = 0 := by
  unfold fillF
  simp [seenB]

theorem fillF_end {ns ls : List Nd} (hw : winB ns ls = true) {d : Nat} (h : d < 2 * ls.length) : fillF (facesL ns ls) (facesL ns ls).length 0 d = atZ (atW ns ls) d := by
  unfold fillF
  rw [List.take_length, if_pos (.inl (faces_all hw _ d (Nat.le_refl _) h)), atW_at h]

theorem fix_walk {ns ls : List Nd} (hw : winB ns ls = true) {k i : Nat} (hk : k < (facesL ns ls).length) (hi : i < (atR (facesL ns ls) k).length) : ∃ q : Nat, atZ (atR (facesL ns ls) k) i = q ∧ q < 2 * ls.length ∧ fIx (facesL ns ls) (q : Int) = k := by
  have hk2 : k < (startsL ns ls (2 * ls.length)).length := by unfold facesL at hk; rwa [facesN_len] at hk
  have hm : atZ (atR (facesL ns ls) k) i ∈ atR (facesL ns ls) k := by rw [← atZ_get hi]; exact List.getElem_mem hi
  have hr : atR (facesL ns ls) k ∈ facesN ns ls (2 * ls.length) := by
    have := List.getElem_mem hk
    rw [atR_get hk] at this
    exact this
  obtain ⟨q, h1, h2⟩ := facesN_darts hw _ (Nat.le_refl _) _ hr _ hm
  refine ⟨q, h1, h2, ?_⟩
  rw [h1] at hm
  exact fIx_row hw _ (Nat.le_refl _) k hk2 _ (by rw [← facesN_atR hk]; exact hm)

theorem row_len {ns ls : List Nd} {k : Nat} (h : k < (wF ns ls).length) : (atR (wF ns ls) k).length ≤ 40 ∧ 0 < (atR (wF ns ls) k).length := by
  obtain ⟨hw, d, hd, e, _⟩ := wF_row h
  obtain ⟨h1, _, h20, _⟩ := whole_win hw
  obtain ⟨p0, p1, _, _⟩ := perN_spec h1 hd
  rw [e]
  unfold walkN
  rw [wkL_len]
  omega
end Go.Proofs.YtepacoacalhdcaaGreat
