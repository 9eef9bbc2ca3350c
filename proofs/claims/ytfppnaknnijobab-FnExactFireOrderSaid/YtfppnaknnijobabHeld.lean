/-
  Cells that a walk has to keep in view while calls make memory.
-/
import Derived.Test.YtfppnaknnijobabPure
import Derived.Test.YtfppnaknnijobabBase
namespace Go.Proofs.Ytfppnaknnijobab
open Go.RowKit
set_option linter.unusedVariables false
set_option linter.unusedSimpArgs false

/-- Cells that read so: block, place, value. -/
def Cs (W : World) : List (Nat × Nat × Value) → Prop
  | [] => True
  | (b, o, v) :: fs => W.cell? ⟨b, o, none⟩ = some v ∧ Cs W fs
def Bs (n : Nat) : List (Nat × Nat × Value) → Prop
  | [] => True
  | (b, _, _) :: fs => b < n ∧ Bs n fs

theorem Cs.keep {W w1 : World} {n : Nat} : ∀ {fs : List (Nat × Nat × Value)}, Bs n fs → Cs W fs → (∀ b o, b < n → w1.cell? ⟨b, o, none⟩ = W.cell? ⟨b, o, none⟩) → Cs w1 fs
  | [], _, _, _ => trivial
  | (_, _, _) :: _, hb, hc, hk => ⟨(hk _ _ hb.1).trans hc.1, Cs.keep hb.2 hc.2 hk⟩
theorem Bs.mono {n m : Nat} (h : n ≤ m) : ∀ {fs : List (Nat × Nat × Value)}, Bs n fs → Bs m fs
  | [], _ => trivial
  | (_, _, _) :: _, hb => ⟨Nat.lt_of_lt_of_le hb.1 h, Bs.mono h hb.2⟩
theorem Cs.append {W : World} : ∀ {fs gs : List (Nat × Nat × Value)}, Cs W fs → Cs W gs → Cs W (fs ++ gs)
  | [], _, _, h => h
  | (_, _, _) :: _, _, h, k => ⟨h.1, Cs.append h.2 k⟩
theorem Bs.append {n : Nat} : ∀ {fs gs : List (Nat × Nat × Value)}, Bs n fs → Bs n gs → Bs n (fs ++ gs)
  | [], _, _, h => h
  | (_, _, _) :: _, _, h, k => ⟨h.1, Bs.append h.2 k⟩

/-- In W the cells fs read so; below the heap's size of w nothing has turned. -/
def Held (w W : World) (fs : List (Nat × Nat × Value)) : Prop := Cs W fs ∧ Bs W.heap.size fs ∧ Below w.heap.size w W

section
variable {w W w1 : World} {fs : List (Nat × Nat × Value)}
theorem Held.none_ (w : World) : Held w w [] := ⟨trivial, trivial, Below.refl _ _⟩
theorem Held.start (hc : Cs w fs) (hb : Bs w.heap.size fs) : Held w w fs := ⟨hc, hb, Below.refl _ _⟩
theorem Held.step (h : Held w W fs) (hb : Below W.heap.size W w1) : Held w w1 fs :=
  ⟨h.1.keep h.2.1 fun b o hlt => hb.cell (p := ⟨b, o, none⟩) hlt, h.2.1.mono hb.size, h.2.2.trans (hb.mono h.2.2.size)⟩
theorem Held.drew (h : Held w W fs) : Held w W.drew fs := ⟨h.1.keep h.2.1 fun _ _ _ => rfl, h.2.1, h.2.2.drew⟩
theorem Held.drewN (h : Held w W fs) (n : Nat) : Held w (W.drewN n) fs := ⟨h.1.keep h.2.1 fun _ _ _ => rfl, h.2.1, below_drewN h.2.2 n⟩
theorem Held.alloc (h : Held w W fs) (o : Obj) : Held w (W.alloc o) fs := h.step ((Below.refl _ _).alloc (Nat.le_refl _) o)

def newFs (b : Nat) : Nat → List Value → List (Nat × Nat × Value)
  | _, [] => []
  | k, v :: vs => (b, k, v) :: newFs b (k + 1) vs
theorem newFs_cs {W : World} {b : Nat} {cs : Array Value} {T : TypeId} {fr : Nat × Nat} (h : W.heap[b]? = some (.cells cs T fr)) : ∀ (vs : List Value) (k : Nat), (∀ j, j < vs.length → cs[k + j]? = vs[j]?) → Cs W (newFs b k vs)
  | [], _, _ => trivial
  | v :: vs, k, hv => ⟨by have := hv 0 (by simp); simp [World.cell?, h] at this ⊢; exact this, newFs_cs h vs (k + 1) fun j hj => by
      have := hv (j + 1) (by simp; omega)
      rw [Nat.add_assoc, Nat.add_comm 1 j]; simpa using this⟩
theorem newFs_bs {n b : Nat} (h : b < n) : ∀ (vs : List Value) (k : Nat), Bs n (newFs b k vs)
  | [], _ => trivial
  | _ :: vs, k => ⟨h, newFs_bs h vs (k + 1)⟩
/-- A new block comes into view. -/
theorem Held.new (h : Held w W fs) (vs : List Value) (T : TypeId) : Held w (W.alloc (.cells vs.toArray T)) (newFs W.heap.size 0 vs ++ fs) :=
  ⟨(newFs_cs (heap_alloc_new W _) vs 0 (by simp)).append (h.alloc _).1, (newFs_bs (by simp) vs 0).append (h.alloc _).2.1, (h.alloc _).2.2⟩
/-- The same, the new block's number as the walk spells it. -/
theorem Held.new2 (h : Held w W fs) (b : Nat) (hb : b = W.heap.size) (vs : List Value) (T : TypeId) : Held w (W.alloc (.cells vs.toArray T)) (newFs b 0 vs ++ fs) := by subst hb; exact h.new vs T
theorem Held.only (h : Held w W fs) {gs : List (Nat × Nat × Value)} (hc : Cs W fs → Cs W gs) (hb : Bs W.heap.size fs → Bs W.heap.size gs) : Held w W gs := ⟨hc h.1, hb h.2.1, h.2.2⟩
theorem Held.drop (h : Held w W fs) : Held w W [] := ⟨trivial, trivial, h.2.2⟩
theorem Held.below (h : Held w W fs) : Below w.heap.size w W := h.2.2
end
end Go.Proofs.Ytfppnaknnijobab
