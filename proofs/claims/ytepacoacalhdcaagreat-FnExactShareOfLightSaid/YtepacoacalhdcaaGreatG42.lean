/-
  Several texts in one: a claim has at most 60 files.
-/
import Derived.Test.YtepacoacalhdcaaGreatG32
import Derived.Test.YtepacoacalhdcaaGreatG6
import Derived.Test.YtepacoacalhdcaaGreatG15

namespace Go.Proofs.YtepacoacalhdcaaGreat
open Go.RowKit
set_option linter.unusedVariables false
set_option linter.unusedSimpArgs false

/-- The area of the face k, with its sign. -/
noncomputable def arK (ns ls : List Nd) (k : Nat) : Int := areaR ns ls (atR (wF ns ls) k)

theorem inn_pos {ns ls : List Nd} (hh : wholeB ns ls = true) {k : Nat} (hk : k < (wF ns ls).length) (hi : innP (outW ns ls) k = true) : 0 < arK ns ls k :=
  inner_pos hh hk (by unfold innP at hi; simpa using hi)

theorem out_neg {ns ls : List Nd} {k : Nat} (hi : innP (outW ns ls) k = false) : arK ns ls k ≤ 0 := by
  unfold innP at hi
  have e : (k : Int) = outW ns ls := by simpa using hi
  rcases firstI_cases (outP ns ls (wF ns ls)) (wF ns ls).length with ⟨h1, _⟩ | ⟨m, h1, h2, h3, _⟩
  · unfold outW at e; omega
  · unfold outW at e
    obtain rfl : k = m := by omega
    unfold outP at h3
    simpa [arK] using h3

theorem inn_area {ns ls : List Nd} (hh : wholeB ns ls = true) {k : Nat} (hk : k < (wF ns ls).length) (hi : innP (outW ns ls) k = true) : areaW ns ls (k : Int) = arK ns ls k := by
  have := inn_pos hh hk hi
  unfold arK at this ⊢
  unfold areaW absR
  rw [if_pos ((idxB_iff _ _).2 (by omega)), Int.toNat_natCast]
  omega

theorem arK_bd {ns ls : List Nd} {k : Nat} (hk : k < (wF ns ls).length) : -16000 ≤ arK ns ls k ∧ arK ns ls k ≤ 16000 := areaR_bd (wF_ok ns ls) hk

theorem area_nnB {ns ls : List Nd} {f : Int} (h : idxB (wF ns ls).length f = true) : 0 ≤ areaW ns ls f ∧ areaW ns ls f ≤ 16000 := by
  obtain ⟨k, rfl, hk⟩ := idx_nat h
  have hb := areaR_bd (wF_ok ns ls) hk
  unfold areaW absR
  rw [if_pos h, show ((k : Int)).toNat = k from rfl]
  omega

/-- The greatest area. -/
noncomputable def mxK (ns ls : List Nd) : Nat → Int
  | 0 => 0
  | n + 1 => max (mxK ns ls n) (arK ns ls n)

theorem mxK_succ (ns ls : List Nd) (n : Nat) : mxK ns ls (n + 1) = max (mxK ns ls n) (arK ns ls n) := rfl

theorem mxK_bd (ns ls : List Nd) : ∀ n, n ≤ (wF ns ls).length → 0 ≤ mxK ns ls n ∧ mxK ns ls n ≤ 16000
  | 0, _ => by simp [mxK]
  | n + 1, h => by
    have := mxK_bd ns ls n (by omega)
    have := arK_bd (ns := ns) (ls := ls) (show n < (wF ns ls).length by omega)
    rw [mxK_succ]
    omega

noncomputable def mxA (ns ls : List Nd) : Int := mxK ns ls (wF ns ls).length

noncomputable def grW (ns ls : List Nd) (t : Int) : Int := if (wholeB ns ls && inB t 1 20) = true then (if mxA ns ls = 0 then 1000 else min 1000 (Int.tdiv (500 * t * t) (mxA ns ls))) else -1

noncomputable def mnG (ns ls : List Nd) (t : Int) (l : List Int) : Int := l.foldl (fun g x => min g (Int.tdiv (500 * t * t) (areaW ns ls x))) 1000

theorem mnG_app (ns ls : List Nd) (t : Int) (l : List Int) (x : Int) : mnG ns ls t (l ++ [x]) = min (mnG ns ls t l) (Int.tdiv (500 * t * t) (areaW ns ls x)) := by unfold mnG; rw [List.foldl_append]; rfl

theorem tdiv_anti {q a b : Int} (hq : 0 ≤ q) (ha : 0 < a) (hb : a ≤ b) : Int.tdiv q b ≤ Int.tdiv q a := by
  rw [Int.tdiv_eq_ediv_of_nonneg hq, Int.tdiv_eq_ediv_of_nonneg hq]
  have h0 : 0 ≤ q / b := Int.ediv_nonneg hq (by omega)
  refine (Int.le_ediv_iff_mul_le ha).2 ?_
  have h1 : q / b * a ≤ q / b * b := Int.mul_le_mul_of_nonneg_left hb h0
  have h2 : q / b * b ≤ q := Int.ediv_mul_le q (by omega)
  omega

theorem fold_min {q : Int} (hq : 0 ≤ q) (A : Nat → Int) (B : Int → Int) (p : Nat → Bool) (M : Nat → Int) (hM0 : M 0 = 0) (hM : ∀ n, M (n + 1) = max (M n) (A n)) :
    ∀ n, (∀ k, k < n → p k = true → 0 < A k ∧ B (k : Int) = A k) → (∀ k, k < n → p k = false → A k ≤ 0) → 0 ≤ M n ∧ (fltN p n).foldl (fun g x => min g (Int.tdiv q (B x))) 1000 = if M n = 0 then 1000 else min 1000 (Int.tdiv q (M n))
  | 0, _, _ => by
    rw [hM0]
    exact ⟨by omega, rfl⟩
  | n + 1, h1, h2 => by
    obtain ⟨i0, i1⟩ := fold_min hq A B p M hM0 hM n (fun k hk => h1 k (by omega)) (fun k hk => h2 k (by omega))
    rw [hM, fltN_succ]
    cases hp : p n
    · have := h2 n (by omega) hp
      rw [if_neg (by simp), i1, show max (M n) (A n) = M n by omega]
      exact ⟨i0, rfl⟩
    · obtain ⟨a0, a1⟩ := h1 n (by omega) hp
      refine ⟨by omega, ?_⟩
      rw [if_pos rfl, List.foldl_append, i1]
      simp only [List.foldl_cons, List.foldl_nil]
      rw [a1, if_neg (show ¬ max (M n) (A n) = 0 by omega)]
      by_cases hz : M n = 0
      · rw [if_pos hz, hz, show max 0 (A n) = A n by omega]
      · rw [if_neg hz]
        by_cases hle : M n ≤ A n
        · have := tdiv_anti hq (show 0 < M n by omega) hle
          rw [show max (M n) (A n) = A n by omega]
          omega
        · have := tdiv_anti hq a0 (show A n ≤ M n by omega)
          rw [show max (M n) (A n) = M n by omega]
          omega

theorem sq_nn {t : Int} (h : inB t 1 20 = true) : 0 ≤ 500 * t * t := by
  have ht : 1 ≤ t ∧ t ≤ 20 := by unfold inB at h; simp at h; omega
  exact Int.mul_nonneg (by omega) (by omega)

theorem grW_inn {ns ls : List Nd} {t : Int} (h : (wholeB ns ls && inB t 1 20) = true) : mnG ns ls t (innW ns ls) = grW ns ls t := by
  have h' := h
  simp only [Bool.and_eq_true] at h'
  have := (fold_min (sq_nn h'.2) (arK ns ls) (areaW ns ls) (innP (outW ns ls)) (mxK ns ls) rfl (fun _ => rfl) (wF ns ls).length (fun k hk hi => ⟨inn_pos h'.1 hk hi, inn_area h'.1 hk hi⟩) (fun k _ hi => out_neg hi)).2
  unfold mnG grW innW
  rw [this, if_pos h]
  rfl

/-- The sum of F over some faces. -/
noncomputable def sumA (ns ls : List Nd) (l : List Int) : Int := l.foldl (fun a x => a + areaW ns ls x) 0

theorem sumA_app (ns ls : List Nd) (l : List Int) (x : Int) : sumA ns ls (l ++ [x]) = sumA ns ls l + areaW ns ls x := by unfold sumA; rw [List.foldl_append]; rfl

theorem sumA_nil (ns ls : List Nd) : sumA ns ls [] = 0 := rfl

theorem foldl_sumZ (f : Int → Int) : ∀ (l : List Int) (a : Int), l.foldl (fun a x => a + f x) a = a + sumZ (l.map f)
  | [], a => by simp [sumZ]
  | x :: t, a => by
    rw [List.foldl_cons, foldl_sumZ f t]
    simp only [List.map_cons, sumZ]
    omega

theorem sumA_sumZ (ns ls : List Nd) (l : List Int) : sumA ns ls l = sumZ (l.map (areaW ns ls)) := by
  unfold sumA
  rw [foldl_sumZ]
  omega

theorem sumZ_flt (p : Nat → Bool) (B : Int → Int) : ∀ n, sumZ ((fltN p n).map B) = sumT (fun k => if p k = true then B k else 0) n
  | 0 => rfl
  | n + 1 => by
    rw [fltN_succ, sumT, ← sumZ_flt p B n]
    cases p n
    · simp
    · rw [if_pos rfl, if_pos rfl, List.map_append, sumZ_app]
      simp [sumZ]

noncomputable def orgF (ns ls : List Nd) (hs : List Int) (n : Nat) : Int := sumT (fun k => if atZ hs k = 0 then max 0 (arK ns ls k) else 0) n

noncomputable def orgW (ns ls : List Nd) (hs : List Int) : Int := if listB ns ls 0 3000 hs = true then orgF ns ls hs (wF ns ls).length else -1

noncomputable def orgL (ns ls : List Nd) (hs : List Int) : List Int := (innW ns ls).filter (fun x => atZ hs x.toNat == 0)

theorem org_inn {ns ls : List Nd} {hs : List Int} (hh : wholeB ns ls = true) : sumA ns ls (orgL ns ls hs) = orgF ns ls hs (wF ns ls).length := by
  unfold orgL innW orgF
  rw [flt_filter, sumA_sumZ, sumZ_flt]
  refine sumT_congr _ fun k hk => ?_
  cases hi : innP (outW ns ls) k
  · have := out_neg hi
    rw [Bool.false_and, if_neg (by simp)]
    split <;> omega
  · have := inn_pos hh hk hi
    rw [inn_area hh hk hi, Bool.true_and, Int.toNat_natCast]
    by_cases hz : atZ hs k = 0
    · rw [if_pos hz, if_pos (by simp [hz])]
      omega
    · rw [if_neg hz, if_neg (by simp [hz])]

theorem sumT_bd {F : Nat → Int} {c : Int} : ∀ n, (∀ k, k < n → 0 ≤ F k ∧ F k ≤ c) → 0 ≤ sumT F n ∧ sumT F n ≤ c * n
  | 0, _ => by simp [sumT]
  | n + 1, h => by
    have := sumT_bd n fun k hk => h k (by omega)
    have := h n (by omega)
    rw [sumT, Int.natCast_succ, Int.mul_add]
    omega

theorem orgF_bd {ns ls : List Nd} {hs : List Int} {n : Nat} (h : n ≤ (wF ns ls).length) : 0 ≤ orgF ns ls hs n ∧ orgF ns ls hs n ≤ 208000 := by
  have h13 := wF_thirteen ns ls
  have := sumT_bd (F := fun k => if atZ hs k = 0 then max 0 (arK ns ls k) else 0) (c := 16000) n fun k hk => by
    have := arK_bd (ns := ns) (ls := ls) (show k < (wF ns ls).length by omega)
    split <;> omega
  unfold orgF
  omega

/-- The faces but the wall around are the whole window. -/
theorem total_inn {ns ls : List Nd} (hh : wholeB ns ls = true) : sumT (fun k => max 0 (arK ns ls k)) (wF ns ls).length = totalW ns ls := by
  obtain ⟨o, ho1, ho2⟩ := outW_is hh
  have hz := sumF_all hh
  have hs : ∀ n, sumF ns ls n = sumT (arK ns ls) n := fun n => by
    induction n with
    | zero => rfl
    | succ n ih => rw [sumF, sumT, ih]; rfl
  rw [hs] at hz
  have h1 : sumT (fun k => max 0 (arK ns ls k) + -(arK ns ls k)) (wF ns ls).length = -(arK ns ls o) := by
    rw [sumT_one (x := o) _ ho2 (fun i hi hne => by
      have := inn_pos hh hi (by unfold innP; rw [ho1]; simp; omega)
      omega)]
    have := out_neg (ns := ns) (ls := ls) (k := o) (by unfold innP; rw [ho1]; simp)
    omega
  rw [sumT_add, sumT_neg, hz] at h1
  have h2 : totalW ns ls = -(arK ns ls o) := by
    have := out_neg (ns := ns) (ls := ls) (k := o) (by unfold innP; rw [ho1]; simp)
    unfold totalW areaW
    rw [ho1, if_pos ((idxB_iff _ _).2 (by omega)), Int.toNat_natCast]
    unfold absR arK at *
    omega
  omega

theorem innW_sum {ns ls : List Nd} (hh : wholeB ns ls = true) : sumA ns ls (innW ns ls) = totalW ns ls := by
  rw [← total_inn hh]
  unfold innW
  rw [sumA_sumZ, sumZ_flt]
  refine sumT_congr _ fun k hk => ?_
  cases hi : innP (outW ns ls) k
  · have := out_neg hi
    rw [if_neg (by simp)]
    omega
  · have := inn_pos hh hk hi
    rw [inn_area hh hk hi, if_pos rfl]
    omega
end Go.Proofs.YtepacoacalhdcaaGreat

namespace Go.Proofs.YtepacoacalhdcaaGreat
open Go.RowKit
set_option linter.unusedVariables false
set_option linter.unusedSimpArgs false

/-- What is known of the faces but the wall around. -/
theorem inn_at {ns ls : List Nd} {i : Nat} (hi : i < (innW ns ls).length) : ∃ k : Nat, atZ (innW ns ls) i = (k : Int) ∧ k < (wF ns ls).length ∧ innP (outW ns ls) k = true ∧ 0 < areaW ns ls (k : Int) ∧ areaW ns ls (k : Int) ≤ 16000 := by
  obtain ⟨k, h1, h2, h3⟩ := (fltN_mem _ _ _).1 (show atZ (innW ns ls) i ∈ innW ns ls from by rw [← atZ_get hi]; exact List.getElem_mem hi)
  have hh := (wF_row h2).1
  have := inn_pos hh h2 h3
  have h5 := area_nnB (ns := ns) (ls := ls) ((idxB_iff _ _).2 (show 0 ≤ (k : Int) ∧ (k : Int) < ((wF ns ls).length : Int) by omega))
  have e := inn_area hh h2 h3
  rw [e] at h5
  exact ⟨k, h1, h2, h3, by rw [e]; exact this, by rw [e]; exact h5.2⟩

theorem totalW_nn {ns ls : List Nd} (hh : wholeB ns ls = true) : 0 ≤ totalW ns ls ∧ totalW ns ls ≤ 16000 := by
  obtain ⟨o, h1, h2⟩ := outW_is hh
  unfold totalW
  rw [h1]
  exact area_nnB ((idxB_iff _ _).2 (by omega))

theorem implAreaG (ns ls : List Nd) (k : Nat) (hk : k < (wF ns ls).length) (v1 v2 v3 v4 : Value) (B : Nat) (w : World) (h1 : Prs w v1 (gN ns ls)) (h2 : Prs w v2 (gL ns ls)) (h3 : Faces w B v3 (wF ns ls)) (h4 : Ints w B v4 (gA ns ls)) :
    Calls Tryz.prog 81 #[.agg #[v1, v2, v3, v4], .int .i64 k] w (IntIs (areaW ns ls (k : Int)) w) := by
  have := implArea (gN ns ls) (gL ns ls) v1 v2 v3 v4 (wF ns ls) (gA ns ls) B k w h1 h2 h3 h4 (g_ok ns ls) hk
  rw [g_area hk] at this
  exact this

theorem implInnG (ns ls : List Nd) (v1 v2 v3 v4 : Value) (B : Nat) (w : World) (h1 : Prs w v1 (gN ns ls)) (h2 : Prs w v2 (gL ns ls)) (h3 : Faces w B v3 (wF ns ls)) (h4 : Ints w B v4 (gA ns ls)) :
    Calls Tryz.prog 75 #[.agg #[v1, v2, v3, v4]] w (IntsNew (innW ns ls) w) := by
  have := implInner (gN ns ls) (gL ns ls) v1 v2 v3 v4 (wF ns ls) (gA ns ls) B w h1 h2 h3 h4 (g_ok ns ls)
  rw [g_outer] at this
  exact this
end Go.Proofs.YtepacoacalhdcaaGreat
