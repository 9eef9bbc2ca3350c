/-
  A square of bools in memory of the call's own: one block a row.
-/
import Derived.Test.YtmcbbjobjogkmaaGreatGlsU
namespace Go.Proofs.YtmcbbjobjogkmaaGreat
open Go.RowKit
set_option linter.unusedVariables false
set_option linter.unusedSimpArgs false

theorem infoRowB : (Tryz.prog.info? 97).map (fun i => (i.zero, i.size, i.bytes)) = some (some (.slice none 0 0), 1, 24) := by kernel_rfl

/-- Row j of the square, as a slice value. -/
def rowVal (g : Nat → Nat) (n j : Nat) : Value := .slice (some ⟨g j, 0, none⟩) n n

def rowVals (g : Nat → Nat) (n k : Nat) : List Value := (List.range k).map (rowVal g n)

theorem rowVals_len (g : Nat → Nat) (n k : Nat) : (rowVals g n k).length = k := by simp [rowVals]

theorem rowVals_succ (g : Nat → Nat) (n k : Nat) : rowVals g n (k + 1) = rowVals g n k ++ [rowVal g n k] := by simp [rowVals, List.range_succ]

theorem rowVals_get (g : Nat → Nat) (n : Nat) {k j : Nat} (h : j < k) : (rowVals g n k)[j]? = some (rowVal g n j) := by simp [rowVals, h]

/-- The slice v holds k rows of n bools each, by the blocks g. -/
structure MatG (w : World) (B : Nat) (v : Value) (g : Nat → Nat) (k n : Nat) (M : Nat → Nat → Bool) : Prop where
  row : w.ownsRow B 97 1 v k (rowVals g n k)
  low : ∀ j, j < k → B ≤ g j
  each : ∀ j, j < k → w.rowIs (g j) 4 n (fun i => .bool (M j i))
  apart : ∀ i j, i < j → j < k → g i < g j

section

variable {w w' : World} {B : Nat} {v : Value} {g : Nat → Nat} {k n : Nat} {M : Nat → Nat → Bool}

theorem ownsRow_block {t : TypeId} {s : Nat} {vs : List Value} (h : w.ownsRow B t s v k vs) (hk : ∀ b, v.ownBlock = some b → w'.heap[b]? = w.heap[b]?) : w'.ownsRow B t s v k vs := by
  refine ⟨h.1, ?_⟩
  rcases h.2 with h0 | ⟨g, cap, cur, hv, hb, hg, r⟩
  · exact .inl h0
  · exact .inr ⟨g, cap, cur, hv, hb, (hk g (by rw [hv]; rfl)).trans hg, r⟩

theorem ownsRow_mono {t : TypeId} {s : Nat} {vs : List Value} (h : w.ownsRow B t s v k vs) {b' : Nat} (hb : b' ≤ B) : w.ownsRow b' t s v k vs := by
  refine ⟨h.1, ?_⟩
  rcases h.2 with h0 | ⟨g, cap, cur, hv, hg, r⟩
  · exact .inl h0
  · exact .inr ⟨g, cap, cur, hv, Nat.le_trans hb hg, r⟩

theorem MatG.own (h : MatG w B v g k n M) : ∀ b, v.ownBlock = some b → B ≤ b ∧ b < w.heap.size := World.ownsRow.lt h.row

theorem MatG.step (h : MatG w B v g k n M) (hb : Below w.heap.size w w') : MatG w' B v g k n M :=
  ⟨ownsRow_block h.row fun b e => hb.block b (h.own b e).2, h.low, fun j hj => rowIs_step (h.each j hj) hb, h.apart⟩

theorem MatG.mono (h : MatG w B v g k n M) {b' : Nat} (hb : b' ≤ B) : MatG w b' v g k n M := ⟨ownsRow_mono h.row hb, fun j hj => Nat.le_trans hb (h.low j hj), h.each, h.apart⟩

theorem MatG.congr {M' : Nat → Nat → Bool} (h : MatG w B v g k n M) (e : ∀ j, j < k → ∀ i, i < n → M j i = M' j i) : MatG w B v g k n M' :=
  ⟨h.row, h.low, fun j hj => (h.each j hj).congr fun i hi => by rw [e j hj i hi], h.apart⟩

theorem MatG.made (w : World) (b B : Nat) (hb : b = w.heap.size) (hB : B ≤ b) (g : Nat → Nat) (n : Nat) (M : Nat → Nat → Bool) : MatG (w.alloc (.cells #[] 97)) B (.slice (some ⟨b, 0, none⟩) 0 0) g 0 n M := by
  subst hb
  exact ⟨World.ownsRow_made _ _ _ hB (by unfold maxLen; omega) rfl, fun j hj => by omega, fun j hj => by omega, fun i j _ hj => by omega⟩

theorem mat_typed (h : MatG w B v g k n M) {b : Nat} (e : v.ownBlock = some b) : ∃ cur, w.heap[b]? = some (.cells cur 97 (0, 0)) := by
  rcases h.row.2 with ⟨rfl, _⟩ | ⟨g, cap, cur, rfl, hb, hg, r⟩
  · cases e
  · simp [Value.ownBlock] at e
    subst e
    exact ⟨cur, hg⟩

/-- The rows lie not where the slice of rows lies. -/
theorem MatG.far (h : MatG w B v g k n M) {b c m : Nat} {f : Nat → Value} (e : v.ownBlock = some b) (hr : w.rowIs c 4 m f) : b ≠ c := by
  rintro rfl
  obtain ⟨c1, h1⟩ := mat_typed h e
  obtain ⟨c2, h2, _⟩ := hr
  rw [h1] at h2
  simp at h2

/-- One bool is stored. -/
theorem MatG.set (h : MatG w B v g k n M) {a : Nat} (ha : a < k) (b : Nat) (x : Bool) : MatG (w.setCell ⟨g a, b, none⟩ (.bool x)) B v g k n (fun j i => if j = a ∧ i = b then x else M j i) := by
  refine ⟨ownsRow_block h.row fun c e => Below.heap_setCell _ _ _ _ (h.far e (h.each a ha)), h.low, fun j hj => ?_, h.apart⟩
  by_cases e : j = a
  · subst e
    refine ((h.each j hj).set b (.bool x)).congr fun i hi => ?_
    by_cases e2 : i = b
    · simp [e2]
    · simp [e2]
  · have hne : g j ≠ g a := by
      rcases Nat.lt_or_gt_of_ne e with hl | hl
      · have := h.apart j a hl ha; omega
      · have := h.apart a j hl hj; omega
    refine ((h.each j hj).setOther (a := ⟨g a, b, none⟩) hne (.bool x)).congr fun i hi => ?_
    simp [e]

theorem MatG.cell (h : MatG w B v g k n M) {j i : Nat} (hj : j < k) (hi : i < n) : w.cell? ⟨g j, i, none⟩ = some (.bool (M j i)) ∧ w.frozen? ⟨g j, i, none⟩ = false ∧ g j < w.heap.size :=
  ⟨(h.each j hj).cell hi, (h.each j hj).frozen i, (h.each j hj).lt⟩

theorem MatG.form (h : MatG w B v g k n M) : ∃ a c, v = .slice a k c ∧ k ≤ maxLen ∧ ∀ j, j < k → ∃ b, a = some ⟨b, 0, none⟩ ∧ B ≤ b ∧ b < w.heap.size ∧ w.cell? ⟨b, j, none⟩ = some (rowVal g n j) := by
  have hr := h.row
  rcases hr.2 with ⟨rfl, h0⟩ | ⟨b, cap, cur, rfl, hb, hg, hnc, hcm, hcs, ht⟩
  · exact ⟨none, 0, by rw [h0], by omega, fun j hj => by omega⟩
  · refine ⟨some ⟨b, 0, none⟩, cap, rfl, by omega, fun j hj => ⟨b, rfl, hb, lt_of_block hg, ?_⟩⟩
    rw [World.ownsRow.cellAt hr j (by omega), rowVals_get g n hj]

theorem MatG.some_ (h : MatG w B v g k n M) (h0 : 0 < k) : ∃ b c, v = .slice (some ⟨b, 0, none⟩) k c := by
  obtain ⟨a, c, rfl, _, hc⟩ := h.form
  obtain ⟨b, rfl, _⟩ := hc 0 h0
  exact ⟨b, c, rfl⟩

theorem MatG.cellRow {b c m : Nat} (h : MatG w B (.slice (some ⟨b, 0, none⟩) m c) g k n M) {j : Nat} (hj : j < k) : w.cell? ⟨b, j, none⟩ = some (rowVal g n j) ∧ b < w.heap.size := by
  obtain ⟨a, c2, e, _, hf⟩ := h.form
  obtain ⟨b2, rfl, _, hl, hc⟩ := hf j hj
  simp only [Value.slice.injEq, Option.some.injEq, Addr.mk.injEq] at e
  obtain ⟨⟨rfl, -, -⟩, -, -⟩ := e
  exact ⟨hc, hl⟩

/-- Another row behind. -/
theorem MatG.more {W : World} {v' : Value} {b : Nat} (h : MatG w B v g k n M) (hb : w.rowIs b 4 n (fun i => .bool (M k i))) (hB : B ≤ b) (hlt : ∀ j, j < k → g j < b)
    (hg : w.grownBy W v.ownBlock) (hown : W.ownsRow B 97 1 v' (k + 1) (rowVals g n k ++ [.slice (some ⟨b, 0, none⟩) n n])) : MatG W B v' (fun j => if j = k then b else g j) (k + 1) n M := by
  have far : ∀ {c : Nat} {f : Nat → Value}, w.rowIs c 4 n f → W.rowIs c 4 n f := fun {c f} hc => rowIs_grown hc hg fun e => h.far e hc rfl
  have er : rowVals (fun j => if j = k then b else g j) n (k + 1) = rowVals g n k ++ [.slice (some ⟨b, 0, none⟩) n n] := by
    rw [rowVals_succ]
    congr 1
    · unfold rowVals
      refine List.map_congr_left fun j hj => ?_
      rw [List.mem_range] at hj
      unfold rowVal
      simp only
      rw [if_neg (by omega)]
    · unfold rowVal
      simp
  refine ⟨by rw [er]; exact hown, fun j hj => ?_, fun j hj => ?_, fun i j hij hj => ?_⟩
  · split
    · exact hB
    · exact h.low j (by omega)
  · by_cases e : j = k
    · subst e
      rw [if_pos rfl]; exact far hb
    · rw [if_neg e]; exact far (h.each j (by omega))
  · rw [if_neg (by omega)]
    by_cases e : j = k
    · rw [if_pos e]; exact hlt i (by omega)
    · rw [if_neg e]; exact h.apart i j hij (by omega)

end

/-- What is returned: a square of bools in new memory. -/
def MatNew (n : Nat) (M : Nat → Nat → Bool) (w : World) (e : Ending) (w' : World) : Prop := ∃ v g, e = .returned v ∧ MatG w' w.heap.size v g n n M ∧ Below w.heap.size w w'

theorem grown_belowM {B : Nat} {W W' : World} {v : Value} {g : Nat → Nat} {k n : Nat} {M : Nat → Nat → Bool} {o : Obj} (h : MatG W B v g k n M) (hB : B ≤ W.heap.size) (hg : (W.alloc o).grownBy W' v.ownBlock) : Below B W W' :=
  ((Below.refl B W).alloc hB o).grown hg (by simp; omega) fun k e => (h.own k e).1

theorem stable_mat (B : Nat) (v : Value) (g : Nat → Nat) (k n : Nat) (M : Nat → Nat → Bool) : Stable fun W => MatG W B v g k n M := fun _ _ h hb => h.step hb

/-- Are the faces f and h beside each other, by the first q leads? -/
def besM (ds : List Int) : Nat → Nat → Nat → Bool
  | 0, _, _ => false
  | q + 1, f, h => besM ds q f h || (decide (atZ ds (2 * q) ≠ atZ ds (2 * q + 1)) && ((decide (atZ ds (2 * q) = f) && decide (atZ ds (2 * q + 1) = h)) || (decide (atZ ds (2 * q) = h) && decide (atZ ds (2 * q + 1) = f))))

theorem besM_succ (ds : List Int) (q f h : Nat) : besM ds (q + 1) f h = (besM ds q f h || (decide (atZ ds (2 * q) ≠ atZ ds (2 * q + 1)) && ((decide (atZ ds (2 * q) = f) && decide (atZ ds (2 * q + 1) = h)) || (decide (atZ ds (2 * q) = h) && decide (atZ ds (2 * q + 1) = f))))) := rfl

theorem besM_skip {ds : List Int} {q : Nat} (h : atZ ds (2 * q) = atZ ds (2 * q + 1)) : besM ds (q + 1) = besM ds q := by
  funext f g
  rw [besM_succ]
  simp [h]

theorem besM_store {ds : List Int} {q a b : Nat} (h : a ≠ b) (ha : atZ ds (2 * q) = a) (hb : atZ ds (2 * q + 1) = b) :
    (fun j i => if j = b ∧ i = a then true else if j = a ∧ i = b then true else besM ds q j i) = besM ds (q + 1) := by
  funext j i
  rw [besM_succ, ha, hb]
  have e : ∀ x y : Nat, (decide ((x : Int) = (y : Int)) : Bool) = decide (x = y) := fun x y => by
    rw [Bool.eq_iff_iff]; simp only [decide_eq_true_eq]; omega
  rw [e, e, e, e, show decide ((a : Int) ≠ (b : Int)) = true from decide_eq_true (by omega), Bool.true_and]
  by_cases c1 : j = b ∧ i = a
  · rw [if_pos c1]; simp [c1.1, c1.2]
  · rw [if_neg c1]
    by_cases c2 : j = a ∧ i = b
    · rw [if_pos c2]; simp [c2.1, c2.2]
    · rw [if_neg c2]
      have k1 : (decide (a = j) && decide (b = i)) = false := by
        rw [Bool.eq_false_iff]; intro k; simp only [Bool.and_eq_true, decide_eq_true_eq] at k; omega
      have k2 : (decide (a = i) && decide (b = j)) = false := by
        rw [Bool.eq_false_iff]; intro k; simp only [Bool.and_eq_true, decide_eq_true_eq] at k; omega
      simp [k1, k2]

theorem besM_sym (ds : List Int) : ∀ q f h, besM ds q f h = besM ds q h f
  | 0, _, _ => rfl
  | q + 1, f, h => by
    rw [besM_succ, besM_succ, besM_sym ds q f h]
    congr 2
    rw [Bool.or_comm]

theorem besM_iff (ds : List Int) (f h : Nat) : ∀ q, besM ds q f h = true ↔ ∃ k, k < q ∧ atZ ds (2 * k) ≠ atZ ds (2 * k + 1) ∧ ((atZ ds (2 * k) = f ∧ atZ ds (2 * k + 1) = h) ∨ (atZ ds (2 * k) = h ∧ atZ ds (2 * k + 1) = f))
  | 0 => by simp [besM]
  | q + 1 => by
    rw [besM_succ]
    simp only [Bool.or_eq_true, Bool.and_eq_true, decide_eq_true_eq]
    rw [besM_iff ds f h q]
    constructor
    · rintro (⟨k, h1, h2⟩ | h1)
      · exact ⟨k, by omega, h2⟩
      · exact ⟨q, by omega, h1⟩
    · rintro ⟨k, h1, h2⟩
      by_cases e : k = q
      · subst e; exact .inr h2
      · exact .inl ⟨k, by omega, h2⟩
end Go.Proofs.YtmcbbjobjogkmaaGreat
