/-
  The fields of a line, joined by single spaces, have the same fields, plainly.
-/
import Derived.Test.YtejjeihikmipdaaDoorSplP
namespace Go.Proofs.YtejjeihikmipdaaDoor
open Go.RowKit
set_option linter.unusedVariables false
set_option linter.unusedSimpArgs false

def ne (cur : List UInt8) : List (List UInt8) := if cur = [] then [] else [cur]
def step (st : List (List UInt8) × List UInt8) (c : UInt8) : List (List UInt8) × List UInt8 := if c = 32 then (st.1 ++ ne st.2, []) else (st.1, st.2 ++ [c])
def run (l : List UInt8) : List (List UInt8) × List UInt8 := l.foldl step ([], [])
def mkB (l : List UInt8) : ByteArray := ⟨l.toArray⟩

theorem ext_mk (s : ByteArray) (b i : Nat) (hb : b ≤ i) (hi : i ≤ s.size) : s.extract b i = mkB ((s.data.toList.take i).drop b) := by
  have h := Lib.extract_toList s b i
  rw [ByteArray.toList_eq] at h
  unfold mkB
  rw [List.drop_take, ← h]
theorem ne_fieldAt (s : ByteArray) (b i : Nat) (hb : b ≤ i) (hi : i ≤ s.size) : (ne ((s.data.toList.take i).drop b)).map mkB = fieldAt s b i := by
  have hl : ((s.data.toList.take i).drop b).length = i - b := by
    rw [List.length_drop, List.length_take]; simp; omega
  unfold ne fieldAt
  by_cases h : b < i
  · have hne : (s.data.toList.take i).drop b ≠ [] := fun e => by rw [e] at hl; simp at hl; omega
    rw [if_neg hne, if_pos h, ext_mk s b i hb hi]; rfl
  · have he : (s.data.toList.take i).drop b = [] := List.eq_nil_of_length_eq_zero (by omega)
    rw [if_pos he, if_neg h]; rfl
theorem run_at (s : ByteArray) : ∀ i, i ≤ s.size → (run (s.data.toList.take i)).1.map mkB = stF s i ∧ (run (s.data.toList.take i)).2 = (s.data.toList.take i).drop (stB s i)
  | 0, _ => ⟨rfl, rfl⟩
  | i + 1, h => by
    have ih := run_at s i (by omega)
    have hlt : i < s.data.toList.length := by simp; omega
    have ha : s.data.toList[i] = at' s.data.toList i := by
      rw [at_get s i (by omega)]; rfl
    have e : run (s.data.toList.take (i + 1)) = step (run (s.data.toList.take i)) (at' s.data.toList i) := by
      unfold run
      rw [List.take_succ_eq_append_getElem hlt, List.foldl_append, ha]
      rfl
    have hb := stB_le s i
    rw [e]
    by_cases hc : at' s.data.toList i = 32
    · rw [stF_space s i hc, stB_space s i hc]
      unfold step
      rw [if_pos hc]
      refine ⟨?_, ?_⟩
      · rw [List.map_append, ih.1, ih.2, ne_fieldAt s _ i hb (by omega)]
      · rw [List.drop_take]; simp
    · rw [stF_other s i hc, stB_other s i hc]
      unfold step
      rw [if_neg hc]
      refine ⟨ih.1, ?_⟩
      rw [ih.2, List.take_succ_eq_append_getElem hlt, List.drop_append_of_le_length (by rw [List.length_take]; omega), ha]
def fieldsL (l : List UInt8) : List (List UInt8) := (run l).1 ++ ne (run l).2
theorem fieldsOf_run (s : ByteArray) : fieldsOf s = (fieldsL s.data.toList).map mkB := by
  have h := run_at s s.size (Nat.le_refl _)
  have e : s.data.toList.take s.size = s.data.toList := List.take_of_length_le (by simp)
  rw [e] at h
  unfold fieldsOf fieldsL
  rw [List.map_append, h.1, h.2]
  have := ne_fieldAt s (stB s s.size) s.size (stB_le s _) (Nat.le_refl _)
  rw [e] at this
  rw [this]

/-- A field: not empty, no space in it, and each of its bytes is one of the line's. -/
def Fld (l f : List UInt8) : Prop := f ≠ [] ∧ ∀ c ∈ f, c ≠ 32 ∧ c ∈ l
theorem run_fld (l : List UInt8) : ∀ (r : List UInt8) (st : List (List UInt8) × List UInt8), (∀ c ∈ r, c ∈ l) → (∀ f ∈ st.1, Fld l f) → (∀ c ∈ st.2, c ≠ 32 ∧ c ∈ l) →
    (∀ f ∈ (r.foldl step st).1, Fld l f) ∧ (∀ c ∈ (r.foldl step st).2, c ≠ 32 ∧ c ∈ l)
  | [], st, _, h1, h2 => ⟨h1, h2⟩
  | c :: r, st, hr, h1, h2 => by
    rw [List.foldl_cons]
    refine run_fld l r (step st c) (fun x hx => hr x (List.mem_cons_of_mem _ hx)) ?_ ?_
    · unfold step
      split
      · intro f hf
        rcases List.mem_append.1 hf with hf | hf
        · exact h1 f hf
        · unfold ne at hf
          split at hf
          · cases hf
          · rename_i hne
            rw [List.mem_singleton] at hf
            subst hf
            exact ⟨hne, h2⟩
      · exact h1
    · unfold step
      split
      · intro x hx; cases hx
      · rename_i hc
        intro x hx
        rcases List.mem_append.1 hx with hx | hx
        · exact h2 x hx
        · rw [List.mem_singleton] at hx
          subst hx
          exact ⟨hc, hr _ (List.mem_cons_self ..)⟩
theorem fieldsL_fld (l : List UInt8) : ∀ f ∈ fieldsL l, Fld l f := by
  have h := run_fld l l ([], []) (fun c hc => hc) (fun f hf => by cases hf) (fun c hc => by cases hc)
  intro f hf
  unfold fieldsL at hf
  rcases List.mem_append.1 hf with hf | hf
  · exact h.1 f hf
  · unfold ne at hf
    split at hf
    · cases hf
    · rename_i hne
      rw [List.mem_singleton] at hf
      subst hf
      exact ⟨hne, h.2⟩
def joinL (ps : List (List UInt8)) : List UInt8 := ps.flatMap fun f => f ++ [32]
theorem foldl_word (out : List (List UInt8)) : ∀ (f cur : List UInt8), (∀ c ∈ f, c ≠ 32) → f.foldl step (out, cur) = (out, cur ++ f)
  | [], cur, _ => by simp
  | c :: f, cur, h => by
    rw [List.foldl_cons]
    have e : step (out, cur) c = (out, cur ++ [c]) := by unfold step; rw [if_neg (h c (List.mem_cons_self ..))]
    rw [e, foldl_word out f _ (fun x hx => h x (List.mem_cons_of_mem _ hx))]
    simp
theorem foldl_join : ∀ (ps : List (List UInt8)) (out : List (List UInt8)), (∀ f ∈ ps, f ≠ [] ∧ ∀ c ∈ f, c ≠ 32) → (joinL ps).foldl step (out, []) = (out ++ ps, [])
  | [], out, _ => by simp [joinL]
  | f :: ps, out, h => by
    have hf := h f (List.mem_cons_self ..)
    have e : joinL (f :: ps) = f ++ ([32] ++ joinL ps) := by simp [joinL]
    rw [e, List.foldl_append, foldl_word out f [] hf.2, List.foldl_append]
    have e2 : List.foldl step (out, [] ++ f) [32] = (out ++ [f], []) := by
      simp [step, ne, hf.1]
    rw [e2, foldl_join ps _ (fun g hg => h g (List.mem_cons_of_mem _ hg))]
    simp
theorem fieldsL_join (ps : List (List UInt8)) (h : ∀ f ∈ ps, f ≠ [] ∧ ∀ c ∈ f, c ≠ 32) : fieldsL (joinL ps) = ps := by
  unfold fieldsL run
  rw [foldl_join ps [] h]
  simp [ne]

/-- What the laws join: each field and a space behind it. -/
theorem join_ok (s t : ByteArray) (hs : LineOk s) (ht : t.data.toList = joinL (fieldsL s.data.toList)) (hz : t.size ≤ 600) : LineOk t ∧ fieldsOf t = fieldsOf s := by
  have hf := fieldsL_fld s.data.toList
  have e : fieldsL t.data.toList = fieldsL s.data.toList := by
    rw [ht]
    exact fieldsL_join _ fun f hm => ⟨(hf f hm).1, fun c hc => ((hf f hm).2 c hc).1⟩
  have e2 : fieldsOf t = fieldsOf s := by rw [fieldsOf_run, fieldsOf_run, e]
  refine ⟨⟨hz, ?_, by rw [e2]; exact hs.2.2⟩, e2⟩
  intro j hj
  have hmem : at' t.data.toList j ∈ t.data.toList := by
    rw [at_get t j hj]
    exact List.getElem_mem (by simpa using hj)
  rw [ht] at hmem
  rw [ht]
  unfold joinL at hmem
  rw [List.mem_flatMap] at hmem
  obtain ⟨f, hfm, hc⟩ := hmem
  have fin : ∀ c : UInt8, c ∈ f ++ [32] → 32 ≤ c.toNat ∧ c.toNat ≤ 126 := by
    intro c hc
    rcases List.mem_append.1 hc with hc | hc
    · have hl := ((hf f hfm).2 c hc).2
      obtain ⟨i, hi, rfl⟩ := List.getElem_of_mem hl
      have := hs.2.1 i (by simpa using hi)
      rw [at_get s i (by simpa using hi)] at this
      exact this
    · rw [List.mem_singleton] at hc
      subst hc
      decide
  exact fin _ hc
theorem joinL_snoc (ps : List (List UInt8)) (f : List UInt8) : joinL (ps ++ [f]) = joinL ps ++ (f ++ [32]) := by simp [joinL]
end Go.Proofs.YtejjeihikmipdaaDoor
