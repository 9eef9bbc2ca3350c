/-
  Slices of pairs of ints in memory that a call itself has made.
-/
import Derived.Test.YtfppnaknnijobabPairs
import Derived.Laws.MakeOwn
import Derived.Laws.Entries
namespace Go.Proofs.Ytfppnaknnijobab
open Go.RowKit
set_option linter.unusedVariables false
set_option linter.unusedSimpArgs false

/-- The first k pairs of the cells C read as those of xs; C holds n pairs. -/
def Half (C : Array Value) (n : Nat) (xs : List Nd) (k : Nat) : Prop :=
  C.size = n * 2 ∧ (∀ j, j < n → ∃ p q : Int, C[j * 2]? = some (.int .i64 p) ∧ C[j * 2 + 1]? = some (.int .i64 q)) ∧
  ∀ j, j < k → C[j * 2]? = some (.int .i64 (atN xs j).x) ∧ C[j * 2 + 1]? = some (.int .i64 (atN xs j).y)

theorem Half.set_ {C : Array Value} {n : Nat} {xs : List Nd} {k : Nat} (h : Half C n xs k) (hk : k < n) :
    Half ((C.setIfInBounds (k * 2) (.int .i64 (atN xs k).x)).setIfInBounds (k * 2 + 1) (.int .i64 (atN xs k).y)) n xs (k + 1) := by
  obtain ⟨hs, ha, hd⟩ := h
  have e0 : ∀ (u v : Value) (j : Nat), j ≠ k → ((C.setIfInBounds (k * 2) u).setIfInBounds (k * 2 + 1) v)[j * 2]? = C[j * 2]? ∧ ((C.setIfInBounds (k * 2) u).setIfInBounds (k * 2 + 1) v)[j * 2 + 1]? = C[j * 2 + 1]? := by
    intro u v j hj
    constructor
    · rw [Array.getElem?_setIfInBounds_ne (by omega), Array.getElem?_setIfInBounds_ne (by omega)]
    · rw [Array.getElem?_setIfInBounds_ne (by omega), Array.getElem?_setIfInBounds_ne (by omega)]
  have e1 : ∀ (u v : Value), ((C.setIfInBounds (k * 2) u).setIfInBounds (k * 2 + 1) v)[k * 2]? = some u ∧ ((C.setIfInBounds (k * 2) u).setIfInBounds (k * 2 + 1) v)[k * 2 + 1]? = some v := by
    intro u v
    constructor
    · rw [Array.getElem?_setIfInBounds_ne (by omega), Array.getElem?_setIfInBounds_self_of_lt (by omega)]
    · rw [Array.getElem?_setIfInBounds_self_of_lt (by simp; omega)]
  refine ⟨by simpa using hs, fun j hj => ?_, fun j hj => ?_⟩
  · by_cases hjk : j = k
    · subst hjk
      exact ⟨_, _, (e1 _ _).1, (e1 _ _).2⟩
    · obtain ⟨p, q, h1, h2⟩ := ha j hj
      exact ⟨p, q, (e0 _ _ j hjk).1.trans h1, (e0 _ _ j hjk).2.trans h2⟩
  · by_cases hjk : j = k
    · subst hjk
      exact e1 _ _
    · obtain ⟨h1, h2⟩ := hd j (by omega)
      exact ⟨(e0 _ _ j hjk).1.trans h1, (e0 _ _ j hjk).2.trans h2⟩

/-- Block g is known whole: n pairs of type T, of which the first k read as those of xs. -/
def HalfAt (w : World) (g : Nat) (T : TypeId) (n : Nat) (xs : List Nd) (k : Nat) : Prop := ∃ C : Array Value, w.heap[g]? = some (.cells C T (0, 0)) ∧ Half C n xs k

theorem HalfAt.lt {w : World} {g : Nat} {T : TypeId} {n : Nat} {xs : List Nd} {k : Nat} (h : HalfAt w g T n xs k) : g < w.heap.size := by
  obtain ⟨C, hC, _⟩ := h
  exact lt_of_block hC
theorem HalfAt.keep {w w' : World} {g : Nat} {T : TypeId} {n : Nat} {xs : List Nd} {k : Nat} (h : HalfAt w g T n xs k) (hk : w'.heap[g]? = w.heap[g]?) : HalfAt w' g T n xs k := by
  obtain ⟨C, hC, hh⟩ := h
  exact ⟨C, hk.trans hC, hh⟩
theorem HalfAt.below {w w' : World} {g : Nat} {T : TypeId} {n : Nat} {xs : List Nd} {k : Nat} (h : HalfAt w g T n xs k) (hb : Below w.heap.size w w') : HalfAt w' g T n xs k := h.keep (hb.block g h.lt)

/-- The slice v reads as xs; its memory is a block of its own from B on, of element type T, known whole. -/
def Mine (w : World) (B : Nat) (T : TypeId) (v : Value) (xs : List Nd) : Prop :=
  ∃ (A : Option Addr) (c n : Nat), v = .slice A xs.length c ∧ xs.length ≤ c ∧ c ≤ maxLen ∧ (0 < xs.length → ∃ g, A = some ⟨g, 0, none⟩ ∧ B ≤ g ∧ xs.length ≤ n ∧ HalfAt w g T n xs xs.length)

theorem Mine.prs {w : World} {B : Nat} {T : TypeId} {v : Value} {xs : List Nd} (h : Mine w B T v xs) : Prs w v xs := by
  obtain ⟨A, c, n, rfl, hl, hc, hx⟩ := h
  refine ⟨A, c, rfl, hl, hc, fun h0 => ?_⟩
  obtain ⟨g, rfl, _, hn, C, hC, hs, ha, hd⟩ := hx h0
  refine ⟨g, 0, rfl, lt_of_block hC, fun k hk => ?_⟩
  obtain ⟨h1, h2⟩ := hd k hk
  constructor
  · rw [Nat.zero_add, cell_of_cells hC]; exact h1
  · rw [Nat.zero_add, cell_of_cells hC]; exact h2

theorem Mine.below {w w' : World} {B : Nat} {T : TypeId} {v : Value} {xs : List Nd} (h : Mine w B T v xs) (hb : Below w.heap.size w w') : Mine w' B T v xs := by
  obtain ⟨A, c, n, rfl, hl, hc, hx⟩ := h
  refine ⟨A, c, n, rfl, hl, hc, fun h0 => ?_⟩
  obtain ⟨g, rfl, hB, hn, hh⟩ := hx h0
  exact ⟨g, rfl, hB, hn, hh.below hb⟩
theorem Mine.mono {w : World} {B B' : Nat} {T : TypeId} {v : Value} {xs : List Nd} (h : Mine w B T v xs) (hB : B' ≤ B) : Mine w B' T v xs := by
  obtain ⟨A, c, n, rfl, hl, hc, hx⟩ := h
  refine ⟨A, c, n, rfl, hl, hc, fun h0 => ?_⟩
  obtain ⟨g, rfl, hg, hn, hh⟩ := hx h0
  exact ⟨g, rfl, by omega, hn, hh⟩

theorem run_make_rowN {P : Program} (t e : TypeId) (i : TypeInfo) (z : Value) (ht : P.underlying t = some (.slice e)) (hi : P.info? e = some i) (hz : i.zero = some z)
    (kl kc : IntKind) (n c : Nat) (hnc : n ≤ c) (hbytes : i.bytes * c ≤ 281474976710656) (h63 : c ≤ 9223372036854775807) (w : World) :
    (Instr.makeSlice t (.int kl (n : Int)) (.int kc (c : Int))).run P w = .ok (.slice (some ⟨w.heap.size, 0, none⟩) n c) (w.alloc (.cells (madeCells z.cells (c * i.size)) e)) := by
  have hb : (i.bytes : Int) * (c : Int) ≤ 281474976710656 := by
    have h : ((i.bytes * c : Nat) : Int) ≤ 281474976710656 := by omega
    rwa [Int.natCast_mul] at h
  have hr := run_make (P := P) w t e i z ht hi hz kl kc n c (by omega) (by omega) hb (by omega)
  simp only [Int.toNat_natCast] at hr
  exact hr
end Go.Proofs.Ytfppnaknnijobab
