/-
  DualDegree, of the program and of the model.
-/
import Derived.Test.YtmcbbjobjogkmaaGreatGlsV
namespace Go.Proofs.YtmcbbjobjogkmaaGreat
open Go.RowKit
set_option linter.unusedVariables false
set_option linter.unusedSimpArgs false

/-- Does the twin of d belong to another face than f? -/
def dualP (ds : List Int) (f : Int) (d : Nat) : Bool := atZ ds (tw d) != f

def cntR (ds : List Int) (f : Int) (r : List Int) : Nat → Int
  | 0 => 0
  | m + 1 => if dualP ds f (atZ r m).toNat = true then cntR ds f r m + 1 else cntR ds f r m

def cntS (ds : List Int) (f : Int) : Nat → Int
  | 0 => 0
  | n + 1 => if (atZ ds n == f && dualP ds f n) = true then cntS ds f n + 1 else cntS ds f n

theorem cntR_succ (ds : List Int) (f : Int) (r : List Int) (m : Nat) : cntR ds f r (m + 1) = if dualP ds f (atZ r m).toNat = true then cntR ds f r m + 1 else cntR ds f r m := rfl

theorem cntS_succ (ds : List Int) (f : Int) (n : Nat) : cntS ds f (n + 1) = if (atZ ds n == f && dualP ds f n) = true then cntS ds f n + 1 else cntS ds f n := rfl

theorem cntR_bd (ds : List Int) (f : Int) (r : List Int) : ∀ m, 0 ≤ cntR ds f r m ∧ cntR ds f r m ≤ m
  | 0 => ⟨Int.le_refl _, Int.le_refl _⟩
  | m + 1 => by have := cntR_bd ds f r m; rw [cntR_succ]; split <;> omega

theorem cntS_bd (ds : List Int) (f : Int) : ∀ m, 0 ≤ cntS ds f m ∧ cntS ds f m ≤ m
  | 0 => ⟨Int.le_refl _, Int.le_refl _⟩
  | m + 1 => by have := cntS_bd ds f m; rw [cntS_succ]; split <;> omega

theorem cntR_eq (ds : List Int) (f : Int) (r : List Int) : ∀ m, m ≤ r.length → cntR ds f r m = ((r.take m).countP (fun x => dualP ds f x.toNat) : Nat)
  | 0, _ => by simp [cntR]
  | m + 1, h => by
    rw [cntR_succ, cntR_eq ds f r m (by omega), List.take_succ_eq_append_getElem (show m < r.length by omega), List.countP_append, atZ_get (show m < r.length by omega)]
    by_cases hp : dualP ds f (atZ r m).toNat = true
    · rw [if_pos hp, List.countP_cons_of_pos (p := fun x : Int => dualP ds f x.toNat) hp]; simp
    · rw [if_neg hp, List.countP_cons_of_neg (p := fun x : Int => dualP ds f x.toNat) hp]; simp

theorem cntS_eq (ds : List Int) (f : Int) : ∀ n, cntS ds f n = ((List.range n).countP (fun d => atZ ds d == f && dualP ds f d) : Nat)
  | 0 => by simp [cntS]
  | n + 1 => by
    rw [cntS_succ, cntS_eq ds f n, List.range_succ, List.countP_append]
    by_cases hp : (atZ ds n == f && dualP ds f n) = true
    · rw [if_pos hp, List.countP_cons_of_pos (p := fun d => atZ ds d == f && dualP ds f d) hp]; simp
    · rw [if_neg hp, List.countP_cons_of_neg (p := fun d => atZ ds d == f && dualP ds f d) hp]; simp

theorem walk_nodup {ns ls : List Nd} {d : Nat} (hw : winB ns ls = true) (hd : d < 2 * ls.length) : (walkN ns ls d).Nodup := by
  obtain ⟨_, _, _, hmin⟩ := perN_spec hw hd
  unfold walkN wkL List.Nodup
  rw [List.pairwise_map]
  refine List.Pairwise.imp_of_mem (fun {a b} ha hb hab e => ?_) List.pairwise_lt_range
  rw [List.mem_range] at ha hb
  have e2 : itN (nxN ns ls) a d = itN (nxN ns ls) a (itN (nxN ns ls) (b - a) d) := by
    rw [← itN_add, show a + (b - a) = b by omega]; omega
  exact hmin (b - a) (by omega) (by omega) (itN_inj (nx_lt hw) (nx_inj hw) a _ _ hd (itN_lt (nx_lt hw) hd _) e2).symm

theorem row_perm {ns ls : List Nd} {k : Nat} (h : k < (wF ns ls).length) : (atR (wF ns ls) k).Perm (((List.range (2 * ls.length)).filter (fun d => atZ (atW ns ls) d == (k : Int))).map fun d : Nat => (d : Int)) := by
  obtain ⟨hh, d0, hd0, e0, _⟩ := wF_row h
  obtain ⟨hw, -, -, -⟩ := whole_win hh
  refine (List.perm_ext_iff_of_nodup (by rw [e0]; exact walk_nodup hw hd0) ?_).2 fun a => ?_
  · unfold List.Nodup
    rw [List.pairwise_map]
    exact (List.pairwise_lt_range.filter _).imp fun h => by omega
  · have hW : wF ns ls = facesL ns ls := if_pos hh
    rw [hW] at h ⊢
    simp only [List.mem_map, List.mem_filter, List.mem_range, beq_iff_eq]
    constructor
    · intro hm
      obtain ⟨i, hi, e⟩ := List.getElem_of_mem hm
      obtain ⟨q, h1, h2, h3⟩ := fix_walk hw h hi
      rw [atZ_get hi, h1] at e
      exact ⟨q, ⟨h2, by rw [atW_at h2, h3]⟩, e⟩
    · rintro ⟨d, ⟨h2, h3⟩, rfl⟩
      rw [atW_at h2] at h3
      have h4 := (fIx_at (faces_all hw _ d (Nat.le_refl _) h2)).1
      have h5 : fIx (facesL ns ls) (d : Int) = k := by omega
      rw [show fIx (facesN ns ls (2 * ls.length)) (d : Int) = k from h5] at h4
      exact List.contains_iff_mem.1 h4

theorem dual_eq {ns ls : List Nd} {k : Nat} (h : k < (wF ns ls).length) : cntR (atW ns ls) k (atR (wF ns ls) k) (atR (wF ns ls) k).length = cntS (atW ns ls) k (2 * ls.length) := by
  rw [cntR_eq _ _ _ _ (Nat.le_refl _), List.take_length, cntS_eq, (row_perm h).countP_eq, List.countP_map, List.countP_filter]
  congr 1
  refine List.countP_congr fun d _ => ?_
  simp only [Function.comp, Int.toNat_natCast, Bool.and_comm]

noncomputable def dualW (ns ls : List Nd) (f : Int) : Int := if idxB (wF ns ls).length f = true then cntS (atW ns ls) f (2 * ls.length) else -1

end Go.Proofs.YtmcbbjobjogkmaaGreat
