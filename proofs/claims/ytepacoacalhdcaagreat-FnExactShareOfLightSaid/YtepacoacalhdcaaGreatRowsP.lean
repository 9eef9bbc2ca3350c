/-
  Slices of slices of ints in memory that a call itself has made; its own rows of bools.
-/
import Derived.Test.YtepacoacalhdcaaGreatG3
import Derived.Test.YtepacoacalhdcaaGreatAro
import Derived.Deep.OwnRows
namespace Go.Proofs.YtepacoacalhdcaaGreat
open Go.RowKit
set_option linter.unusedVariables false
set_option linter.unusedSimpArgs false

theorem infoRow : (Tryz.prog.info? 27).map (fun i => (i.zero, i.size, i.bytes)) = some (some (.slice none 0 0), 1, 24) := by kernel_rfl

theorem infoBool : (Tryz.prog.info? 4).map (fun i => (i.zero, i.size, i.bytes)) = some (some (.bool false), 1, 1) := by kernel_rfl

/-- The slice v reads as the slices us; its memory is a block of its own from B on. -/
def RowV (w : World) (B : Nat) (v : Value) (us : List Value) : Prop := w.ownsRow B 27 1 v us.length us

theorem RowV.nil (w : World) (B : Nat) : RowV w B (.slice none 0 0) [] := World.ownsRow_nil w B _ 1

theorem RowV.made (w : World) (b B : Nat) (hb : b = w.heap.size) (hB : B ≤ b) : RowV (w.alloc (.cells #[] 27)) B (.slice (some ⟨b, 0, none⟩) 0 0) [] := by
  subst hb
  exact World.ownsRow_made _ _ _ hB (by unfold maxLen; omega) rfl

theorem RowV.own {w : World} {B : Nat} {v : Value} {us : List Value} (h : RowV w B v us) : ∀ k, v.ownBlock = some k → B ≤ k ∧ k < w.heap.size := World.ownsRow.lt h

theorem RowV.step {w w' : World} {B : Nat} {v : Value} {us : List Value} (h : RowV w B v us) (hb : Below w.heap.size w w') : RowV w' B v us :=
  World.ownsRow.kept h (row := none) ⟨hb.os, hb.tape, hb.output, hb.size, fun k hk _ => hb.block k (by omega)⟩ (by cases v.ownBlock <;> simp)

theorem RowV.mono {w : World} {B b' : Nat} {v : Value} {us : List Value} (h : RowV w B v us) (hb : b' ≤ B) : RowV w b' v us := by
  refine ⟨h.1, ?_⟩
  rcases h.2 with h0 | ⟨g, cap, cur, hv, hg, r⟩
  · exact .inl h0
  · exact .inr ⟨g, cap, cur, hv, Nat.le_trans hb hg, r⟩

theorem RowV.keep {w w' : World} {B : Nat} {v : Value} {us : List Value} (h : RowV w B v us) (hk : ∀ k, v.ownBlock = some k → w'.heap[k]? = w.heap[k]?) : RowV w' B v us := by
  refine ⟨h.1, ?_⟩
  rcases h.2 with h0 | ⟨g, cap, cur, hv, hb, hg, r⟩
  · exact .inl h0
  · exact .inr ⟨g, cap, cur, hv, hb, (hk g (by rw [hv]; rfl)).trans hg, r⟩

theorem RowV.more {w' : World} {B : Nat} {v u : Value} {us : List Value} (h : w'.ownsRow B 27 1 v (us.length + 1) (us ++ [u])) : RowV w' B v (us ++ [u]) := by
  unfold RowV
  rw [List.length_append]
  exact h

theorem Ints.keep {w w' : World} {B : Nat} {v : Value} {xs : List Int} (h : Ints w B v xs) (hk : ∀ k, v.ownBlock = some k → w'.heap[k]? = w.heap[k]?) : Ints w' B v xs := by
  refine ⟨h.1, ?_⟩
  rcases h.2 with h0 | ⟨g, cap, cur, hv, hb, hg, r⟩
  · exact .inl h0
  · exact .inr ⟨g, cap, cur, hv, hb, (hk g (by rw [hv]; rfl)).trans hg, r⟩

theorem Ints.typed {w : World} {B k : Nat} {v : Value} {xs : List Int} (h : Ints w B v xs) (hk : v.ownBlock = some k) : ∃ cur, w.heap[k]? = some (.cells cur 3 (0, 0)) := by
  rcases h.2 with ⟨rfl, _⟩ | ⟨g, cap, cur, rfl, hb, hg, r⟩
  · cases hk
  · simp [Value.ownBlock] at hk
    subst hk
    exact ⟨cur, hg⟩

theorem RowV.typed {w : World} {B k : Nat} {v : Value} {us : List Value} (h : RowV w B v us) (hk : v.ownBlock = some k) : ∃ cur, w.heap[k]? = some (.cells cur 27 (0, 0)) := by
  rcases h.2 with ⟨rfl, _⟩ | ⟨g, cap, cur, rfl, hb, hg, r⟩
  · cases hk
  · simp [Value.ownBlock] at hk
    subst hk
    exact ⟨cur, hg⟩

/-- A row of ints lies in no block of slices. -/
theorem RowV.far {w : World} {B B' k : Nat} {v u : Value} {us : List Value} {xs : List Int} (h : RowV w B v us) (hu : Ints w B' u xs) (hk : u.ownBlock = some k) : v.ownBlock ≠ some k := by
  intro e
  obtain ⟨c1, h1⟩ := h.typed e
  obtain ⟨c2, h2⟩ := hu.typed hk
  rw [h1] at h2
  simp at h2

def atV (us : List Value) (k : Nat) : Value := us.getD k (.int .i64 0)

def atR (rs : List (List Int)) (k : Nat) : List Int := rs.getD k []

theorem atV_get {us : List Value} {k : Nat} (h : k < us.length) : us[k] = atV us k := by unfold atV; simp [List.getD, h]

theorem atR_get {rs : List (List Int)} {k : Nat} (h : k < rs.length) : rs[k] = atR rs k := by unfold atR; simp [List.getD, h]

theorem atV_old {us : List Value} {u : Value} {k : Nat} (h : k < us.length) : atV (us ++ [u]) k = atV us k := by unfold atV; simp [List.getD, List.getElem?_append, h]

theorem atV_new (us : List Value) (u : Value) : atV (us ++ [u]) us.length = u := by unfold atV; simp [List.getD]

theorem atR_old {rs : List (List Int)} {r : List Int} {k : Nat} (h : k < rs.length) : atR (rs ++ [r]) k = atR rs k := by unfold atR; simp [List.getD, List.getElem?_append, h]

theorem atR_new (rs : List (List Int)) (r : List Int) : atR (rs ++ [r]) rs.length = r := by unfold atR; simp [List.getD]

/-- The slice v reads as the rows rs, by the slices us; its memory and theirs are blocks of the call's own from B on, in ascending order. -/
structure FaceV (w : World) (B : Nat) (v : Value) (us : List Value) (rs : List (List Int)) : Prop where
  row : RowV w B v us
  len : us.length = rs.length
  each : ∀ j, j < rs.length → Ints w B (atV us j) (atR rs j)
  asc : ∀ i j, i < j → j < rs.length → ∀ p q, (atV us i).ownBlock = some p → (atV us j).ownBlock = some q → p < q

def Faces (w : World) (B : Nat) (v : Value) (rs : List (List Int)) : Prop := ∃ us, FaceV w B v us rs

theorem FaceV.nil (w : World) (B : Nat) : FaceV w B (.slice none 0 0) [] [] := ⟨RowV.nil w B, rfl, fun j h => by simp at h, fun i j _ h => by simp at h⟩

theorem FaceV.made (w : World) (b B : Nat) (hb : b = w.heap.size) (hB : B ≤ b) : FaceV (w.alloc (.cells #[] 27)) B (.slice (some ⟨b, 0, none⟩) 0 0) [] [] := ⟨RowV.made w b B hb hB, rfl, fun j h => by simp at h, fun i j _ h => by simp at h⟩

section

variable {w w' : World} {B : Nat} {v : Value} {us : List Value} {rs : List (List Int)}

theorem FaceV.step (h : FaceV w B v us rs) (hb : Below w.heap.size w w') : FaceV w' B v us rs := ⟨h.row.step hb, h.len, fun j hj => (h.each j hj).step hb, h.asc⟩

theorem FaceV.mono (h : FaceV w B v us rs) {b' : Nat} (hb : b' ≤ B) : FaceV w b' v us rs := ⟨h.row.mono hb, h.len, fun j hj => (h.each j hj).mono hb, h.asc⟩

theorem Faces.step (h : Faces w B v rs) (hb : Below w.heap.size w w') : Faces w' B v rs := by obtain ⟨us, h⟩ := h; exact ⟨us, h.step hb⟩

theorem Faces.mono (h : Faces w B v rs) {b' : Nat} (hb : b' ≤ B) : Faces w b' v rs := by obtain ⟨us, h⟩ := h; exact ⟨us, h.mono hb⟩

theorem Faces.nil (w : World) (B : Nat) : Faces w B (.slice none 0 0) [] := ⟨[], FaceV.nil w B⟩

/-- Another row behind: the slice itself has moved or grown. -/
theorem FaceV.more (h : FaceV w B v us rs) {u v' : Value} {r : List Int} (hu : Ints w B u r) (hnew : ∀ j, j < rs.length → ∀ p q, (atV us j).ownBlock = some p → u.ownBlock = some q → p < q)
    (hg : w.grownBy w' v.ownBlock) (hown : w'.ownsRow B 27 1 v' (us.length + 1) (us ++ [u])) : FaceV w' B v' (us ++ [u]) (rs ++ [r]) := by
  have far : ∀ {x : Value} {xs : List Int}, Ints w B x xs → Ints w' B x xs := fun {x xs} hx => hx.keep fun k hk => hg.block k (hx.own k hk).2 (fun e => h.row.far hx hk e.symm)
  refine ⟨RowV.more hown, by simp [h.len], fun j hj => ?_, fun i j hij hj p q hp hq => ?_⟩
  · by_cases e : j < rs.length
    · rw [atV_old (by rw [h.len]; exact e), atR_old e]
      exact far (h.each j e)
    · have e2 : j = rs.length := by simp at hj; omega
      subst e2
      rw [atR_new, ← h.len, atV_new]
      exact far hu
  · by_cases e : j < rs.length
    · rw [atV_old (by rw [h.len]; omega)] at hp
      rw [atV_old (by rw [h.len]; exact e)] at hq
      exact h.asc i j hij e p q hp hq
    · have e2 : j = rs.length := by simp at hj; omega
      subst e2
      rw [atV_old (by rw [h.len]; omega)] at hp
      rw [← h.len, atV_new] at hq
      exact hnew i hij p q hp hq

theorem FaceV.form (h : FaceV w B v us rs) : ∃ a c, v = .slice a rs.length c ∧ rs.length ≤ maxLen ∧ ∀ j, j < rs.length → ∃ g, a = some ⟨g, 0, none⟩ ∧ B ≤ g ∧ g < w.heap.size ∧ w.cell? ⟨g, j, none⟩ = some (atV us j) := by
  have H := h.row
  have hl := h.len
  have hr := h.row
  unfold RowV at hr
  rcases hr.2 with ⟨rfl, h0⟩ | ⟨g, cap, cur, rfl, hb, hg, hnc, hcm, hcs, ht⟩
  · exact ⟨none, 0, by rw [← hl, h0], by omega, fun j hj => by omega⟩
  · refine ⟨some ⟨g, 0, none⟩, cap, by rw [hl], by omega, fun j hj => ⟨g, rfl, hb, lt_of_block hg, ?_⟩⟩
    rw [World.ownsRow.cellAt hr j (by omega), ← atV_get (show j < us.length by omega)]
    simp [show j < us.length by omega]

end

/-- A row of the call's own stays. -/
theorem rowIs_step {w w' : World} {b n : Nat} {t : TypeId} {f : Nat → Value} (h : w.rowIs b t n f) (hb : Below w.heap.size w w') : w'.rowIs b t n f := h.of_block (hb.block b h.lt)

theorem rowIs_grown {w w' : World} {b n : Nat} {t : TypeId} {f : Nat → Value} {row : Option Nat} (h : w.rowIs b t n f) (hg : w.grownBy w' row) (hr : row ≠ some b) : w'.rowIs b t n f := h.of_block (hg.block b h.lt fun e => hr e.symm)

/-- A row of bools lies in no block of ints, and in none of slices. -/
theorem Ints.farB {w : World} {B b n k : Nat} {u : Value} {xs : List Int} {f : Nat → Value} (h : Ints w B u xs) (hr : w.rowIs b 4 n f) (hk : u.ownBlock = some k) : k ≠ b := by
  rintro rfl
  obtain ⟨c1, h1⟩ := h.typed hk
  obtain ⟨c2, h2, _⟩ := hr
  rw [h1] at h2
  simp at h2

theorem RowV.farB {w : World} {B b n k : Nat} {v : Value} {us : List Value} {f : Nat → Value} (h : RowV w B v us) (hr : w.rowIs b 4 n f) (hk : v.ownBlock = some k) : k ≠ b := by
  rintro rfl
  obtain ⟨c1, h1⟩ := h.typed hk
  obtain ⟨c2, h2, _⟩ := hr
  rw [h1] at h2
  simp at h2

theorem Ints.setFarB {w : World} {B b n j : Nat} {u x : Value} {xs : List Int} {f : Nat → Value} (h : Ints w B u xs) (hr : w.rowIs b 4 n f) : Ints (w.setCell ⟨b, j, none⟩ x) B u xs :=
  h.keep fun k hk => Below.heap_setCell _ _ _ _ (h.farB hr hk)

theorem FaceV.setFarB {w : World} {B b n j : Nat} {v x : Value} {us : List Value} {rs : List (List Int)} {f : Nat → Value} (h : FaceV w B v us rs) (hr : w.rowIs b 4 n f) : FaceV (w.setCell ⟨b, j, none⟩ x) B v us rs :=
  ⟨h.row.keep fun k hk => Below.heap_setCell _ _ _ _ (h.row.farB hr hk), h.len, fun i hi => (h.each i hi).setFarB hr, h.asc⟩

theorem grown_belowR {B : Nat} {W W' : World} {v : Value} {us : List Value} {o : Obj} (h : RowV W B v us) (hB : B ≤ W.heap.size) (hg : (W.alloc o).grownBy W' v.ownBlock) : Below B W W' :=
  ((Below.refl B W).alloc hB o).grown hg (by simp; omega) fun k e => (h.own k e).1

theorem below_alloc (w : World) (o : Obj) : Below w.heap.size w (w.alloc o) := (Below.refl _ _).alloc (Nat.le_refl _) o

/-- What is returned: the rows rs in new memory. -/
def FacesNew (rs : List (List Int)) (w : World) (e : Ending) (w' : World) : Prop := ∃ v, e = .returned v ∧ Faces w' w.heap.size v rs ∧ Below w.heap.size w w'

/-- The slices us read as the rows rs; their memory lies in blocks of the call's own from B on, in ascending order. -/
structure RowsOf (w : World) (B : Nat) (us : List Value) (rs : List (List Int)) : Prop where
  len : us.length = rs.length
  each : ∀ j, j < rs.length → Ints w B (atV us j) (atR rs j)
  asc : ∀ i j, i < j → j < rs.length → ∀ p q, (atV us i).ownBlock = some p → (atV us j).ownBlock = some q → p < q

theorem RowsOf.nil (w : World) (B : Nat) : RowsOf w B [] [] := ⟨rfl, fun j h => by simp at h, fun i j _ h => by simp at h⟩

theorem RowsOf.keep {w w' : World} {B : Nat} {us : List Value} {rs : List (List Int)} (h : RowsOf w B us rs) (hk : ∀ (k : Nat) (cur : Array Value), w.heap[k]? = some (.cells cur 3 (0, 0)) → w'.heap[k]? = w.heap[k]?) : RowsOf w' B us rs :=
  ⟨h.len, fun j hj => (h.each j hj).keep fun k e => by obtain ⟨cur, hc⟩ := (h.each j hj).typed e; exact hk k cur hc, h.asc⟩

theorem RowsOf.step {w w' : World} {B : Nat} {us : List Value} {rs : List (List Int)} (h : RowsOf w B us rs) (hb : Below w.heap.size w w') : RowsOf w' B us rs := ⟨h.len, fun j hj => (h.each j hj).step hb, h.asc⟩

theorem RowsOf.mono {w : World} {B b' : Nat} {us : List Value} {rs : List (List Int)} (h : RowsOf w B us rs) (hb : b' ≤ B) : RowsOf w b' us rs := ⟨h.len, fun j hj => (h.each j hj).mono hb, h.asc⟩

theorem RowsOf.setFarB {w : World} {B b n j : Nat} {x : Value} {us : List Value} {rs : List (List Int)} {f : Nat → Value} (h : RowsOf w B us rs) (hr : w.rowIs b 4 n f) : RowsOf (w.setCell ⟨b, j, none⟩ x) B us rs :=
  ⟨h.len, fun i hi => (h.each i hi).setFarB hr, h.asc⟩

theorem RowsOf.more {w : World} {B : Nat} {us : List Value} {rs : List (List Int)} (h : RowsOf w B us rs) {u : Value} {r : List Int} (hu : Ints w B u r) (hnew : ∀ j, j < rs.length → ∀ p q, (atV us j).ownBlock = some p → u.ownBlock = some q → p < q) : RowsOf w B (us ++ [u]) (rs ++ [r]) := by
  refine ⟨by simp [h.len], fun j hj => ?_, fun i j hij hj p q hp hq => ?_⟩
  · by_cases e : j < rs.length
    · rw [atV_old (by rw [h.len]; exact e), atR_old e]
      exact h.each j e
    · have e2 : j = rs.length := by simp at hj; omega
      subst e2
      rw [atR_new, ← h.len, atV_new]
      exact hu
  · by_cases e : j < rs.length
    · rw [atV_old (by rw [h.len]; omega)] at hp
      rw [atV_old (by rw [h.len]; exact e)] at hq
      exact h.asc i j hij e p q hp hq
    · have e2 : j = rs.length := by simp at hj; omega
      subst e2
      rw [atV_old (by rw [h.len]; omega)] at hp
      rw [← h.len, atV_new] at hq
      exact hnew i hij p q hp hq

/-- The darts that the first rows hold. -/
theorem facesN_darts {ns ls : List Nd} (hw : winB ns ls = true) : ∀ n, n ≤ 2 * ls.length → ∀ r, r ∈ facesN ns ls n → ∀ x, x ∈ r → ∃ q : Nat, x = q ∧ q < 2 * ls.length := by
  intro n hn r hr x hx
  obtain ⟨d, hd, rfl⟩ := facesN_row hr
  exact walk_nat hw (by have := startsL_lt ns ls n d hd; omega) hx

theorem facesN_len (ns ls : List Nd) (n : Nat) : (facesN ns ls n).length = (startsL ns ls n).length := by unfold facesN; simp

theorem facesN_atR {ns ls : List Nd} {n k : Nat} (h : k < (facesN ns ls n).length) : atR (facesN ns ls n) k = walkN ns ls ((startsL ns ls n).getD k 0) := by
  rw [facesN_len] at h
  unfold atR facesN
  simp [List.getD, h]
end Go.Proofs.YtepacoacalhdcaaGreat
