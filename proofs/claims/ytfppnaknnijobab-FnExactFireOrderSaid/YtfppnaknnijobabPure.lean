/-
  Plain facts about numbers and worlds that the walks of this seat use; no program is named here.
-/
import Derived.WalkKit
import Derived.Below
import Derived.OpenShut
import Derived.OwnWalk
import Derived.OneCell
import Derived.WalkSmall
import Derived.Laws.BitsAllLaws
namespace Go.Proofs.Ytfppnaknnijobab
set_option linter.unusedVariables false
set_option linter.unusedSimpArgs false
open Go.RowKit

theorem i64_mask (x : Int) (m : Nat) (hm : m < 9223372036854775808) : 0 ≤ bits .and .i64 x (m : Int) ∧ bits .and .i64 x (m : Int) ≤ m := by
  have e : bits .and .i64 x (m : Int) = IntKind.i64.wrap ((BitVec.ofInt 64 x &&& BitVec.ofInt 64 (m : Int)).toNat : Int) := rfl
  have hb : (BitVec.ofInt 64 (m : Int)).toNat = m := by
    rw [BitVec.ofInt_natCast, BitVec.toNat_ofNat]; exact Nat.mod_eq_of_lt (by omega)
  have hle : (BitVec.ofInt 64 x &&& BitVec.ofInt 64 (m : Int)).toNat ≤ m := by
    rw [BitVec.toNat_and, hb]; exact Nat.and_le_right
  rw [e, IntKind.wrap_i64]
  omega

theorem mask255 (x : Int) : 0 ≤ bits .and .i64 x 255 ∧ bits .and .i64 x 255 ≤ 255 := i64_mask x 255 (by omega)

/-- A slice of bytes in memory below block B: the first 'len' cells read as bytes. -/
def BytesAt (B : Nat) (w : World) (a : Option Addr) (len : Nat) : Prop :=
  len ≤ maxLen ∧ (len = 0 ∨ ∃ (blk off : Nat) (f : Nat → Int), a = some ⟨blk, off, none⟩ ∧ blk < B ∧ ∀ j, j < len → w.cell? ⟨blk, off + j, none⟩ = some (.int .u8 (f j)) ∧ 0 ≤ f j ∧ f j ≤ 255)

theorem BytesAt.keep {B : Nat} {w w' : World} {a : Option Addr} {len : Nat} (h : BytesAt B w a len) (hk : ∀ k, k < B → w'.heap[k]? = w.heap[k]?) : BytesAt B w' a len := by
  refine ⟨h.1, ?_⟩
  rcases h.2 with h0 | ⟨blk, off, f, ha, hb, hf⟩
  · exact .inl h0
  · exact .inr ⟨blk, off, f, ha, hb, fun j hj => ⟨(World.cell?_of_block (w := w) (hk blk hb)).trans (hf j hj).1, (hf j hj).2⟩⟩

theorem heap_setCell_self {w : World} {b k : Nat} {c : Array Value} {t : TypeId} {fr : Nat × Nat} (h : w.heap[b]? = some (.cells c t fr)) (u : Value) :
    (w.setCell ⟨b, k, none⟩ u).heap[b]? = some (.cells (c.setIfInBounds k u) t fr) := by
  have hlt := lt_of_block h
  have h' : w.heap[b] = .cells c t fr := by simpa [Array.getElem?_eq_getElem hlt] using h
  show (w.heap.modify b _)[b]? = _
  rw [Array.getElem?_eq_getElem (by simpa using hlt), Array.getElem_modify_self, h']
  rfl

theorem heap_setCell_size (w : World) (a : Addr) (u : Value) : (w.setCell a u).heap.size = w.heap.size := by simp [World.setCell]
theorem heap_drewN (w : World) (n : Nat) : (w.drewN n).heap = w.heap := rfl

theorem cell_of_cells {w : World} {b k : Nat} {c : Array Value} {t : TypeId} (h : w.heap[b]? = some (.cells c t (0, 0))) : w.cell? ⟨b, k, none⟩ = c[k]? := by simp [World.cell?, h]
theorem free_of_cells {w : World} {b k : Nat} {c : Array Value} {t : TypeId} (h : w.heap[b]? = some (.cells c t (0, 0))) : w.frozen? ⟨b, k, none⟩ = false := by simp [World.frozen?, h]

/-- The cursor of a draw at block b (b is not below B; the bytes that it reads lie below B). T: the number of its struct's type. -/
def Cur (T B : Nat) (w : World) (b : Nat) : Prop :=
  B ≤ b ∧ ∃ (a : Option Addr) (len cap i : Nat) (h : Int), w.heap[b]? = some (.cells #[.slice a len cap, .int .i64 i, .int .i64 h] T (0, 0)) ∧ i ≤ len ∧ BytesAt B w a len

theorem Cur.keep {T B b : Nat} {w w' : World} (h : Cur T B w b) (hk : ∀ k, k < B ∨ k = b → w'.heap[k]? = w.heap[k]?) : Cur T B w' b := by
  obtain ⟨hB, a, len, cap, i, hh, hb, hi, hby⟩ := h
  exact ⟨hB, a, len, cap, i, hh, (hk b (.inr rfl)).trans hb, hi, hby.keep fun k hk' => hk k (.inl hk')⟩

theorem Cur.lt {T B b : Nat} {w : World} (h : Cur T B w b) : b < w.heap.size := by
  obtain ⟨_, a, len, cap, i, hh, hb, _⟩ := h
  exact lt_of_block hb

theorem Cur.base {T B b : Nat} {w : World} (h : Cur T B w b) : B ≤ b := h.1

/-- Behind a law that ends in 'grownBy': the row written is one of the call's own and not the cursor's. -/
theorem Cur.grown {T B b : Nat} {w w' : World} {row : Option Nat} (h : Cur T B w b) (hg : w.grownBy w' row) (hr : ∀ k, row = some k → B ≤ k ∧ k ≠ b) : Cur T B w' b := by
  have hlt := h.lt
  have hB := h.base
  refine h.keep fun k hk => hg.block k (by omega) fun e => ?_
  have := hr k e.symm
  omega

theorem Cur.drewN {T B b : Nat} {w : World} (h : Cur T B w b) (n : Nat) : Cur T B (w.drewN n) b := h
theorem Cur.alloc {T B b : Nat} {w : World} (h : Cur T B w b) (o : Obj) : Cur T B (w.alloc o) b := h.grown (World.grownBy_alloc w o none) (fun _ e => by cases e)

/-- What a step of the cursor at block b does: no block but b has turned, none is new. -/
structure Steps (b : Nat) (w w' : World) : Prop where
  os : w'.os = w.os
  tape : w'.tape = w.tape
  output : w'.output = w.output
  size : w'.heap.size = w.heap.size
  block : ∀ k, k ≠ b → w'.heap[k]? = w.heap[k]?

theorem Steps.refl (b : Nat) (w : World) : Steps b w w := ⟨rfl, rfl, rfl, rfl, fun _ _ => rfl⟩
theorem Steps.trans {b : Nat} {x y z : World} (h : Steps b x y) (k : Steps b y z) : Steps b x z :=
  ⟨k.os.trans h.os, k.tape.trans h.tape, k.output.trans h.output, k.size.trans h.size, fun i hi => (k.block i hi).trans (h.block i hi)⟩
theorem Steps.drewN {b : Nat} {x y : World} (h : Steps b x y) (n : Nat) : Steps b x (y.drewN n) := ⟨h.os, h.tape, h.output, h.size, h.block⟩
theorem Steps.drew {b : Nat} {x y : World} (h : Steps b x y) : Steps b x y.drew := ⟨h.os, h.tape, h.output, h.size, h.block⟩
theorem Steps.setCell {b k : Nat} {x y : World} (h : Steps b x y) (u : Value) : Steps b x (y.setCell ⟨b, k, none⟩ u) :=
  h.trans ⟨rfl, rfl, rfl, heap_setCell_size _ _ _, fun i hi => Below.heap_setCell _ _ _ _ hi⟩
theorem Steps.grown {b : Nat} {x y : World} (h : Steps b x y) : x.grownBy y (some b) :=
  ⟨h.os, h.tape, h.output, by rw [h.size]; exact Nat.le_refl _, fun k _ hk => h.block k fun e => hk (by rw [e])⟩
theorem Steps.below {b B : Nat} {x y : World} (h : Steps b x y) (hB : B ≤ b) : Below B x y :=
  ⟨h.os, h.tape, h.output, by rw [h.size]; exact Nat.le_refl _, fun k hk => h.block k (by omega)⟩
/-- Two cursors never meet; a row of the call's own stays owned. -/
theorem Steps.row {b : Nat} {x y : World} (h : Steps b x y) {base : Nat} {e : TypeId} {size : Nat} {v : Value} {n : Nat} {xs : List Value} (ho : x.ownsRow base e size v n xs) (hv : v.ownBlock ≠ some b) : y.ownsRow base e size v n xs :=
  ho.kept h.grown (.inr hv)

/-- 'Goes b w w'': of what lay in w only block b may have turned; new blocks may have come. -/
def Goes (b : Nat) (w w' : World) : Prop := w.grownBy w' (some b)
theorem Goes.refl (b : Nat) (w : World) : Goes b w w := ⟨rfl, rfl, rfl, Nat.le_refl _, fun _ _ _ => rfl⟩
theorem Goes.trans {b : Nat} {x y z : World} (h : Goes b x y) (k : Goes b y z) : Goes b x z :=
  ⟨k.os.trans h.os, k.tape.trans h.tape, k.output.trans h.output, Nat.le_trans h.size k.size, fun i hi hne => (k.block i (Nat.lt_of_lt_of_le hi h.size) hne).trans (h.block i hi hne)⟩
theorem Goes.drew {b : Nat} {x y : World} (h : Goes b x y) : Goes b x y.drew := ⟨h.os, h.tape, h.output, h.size, h.block⟩
theorem Goes.drewN {b : Nat} {x y : World} (h : Goes b x y) (n : Nat) : Goes b x (y.drewN n) := ⟨h.os, h.tape, h.output, h.size, h.block⟩
theorem Goes.alloc {b : Nat} {x y : World} (h : Goes b x y) (o : Obj) : Goes b x (y.alloc o) := h.trans (World.grownBy_alloc y o (some b))
theorem Goes.steps {b : Nat} {x y z : World} (h : Goes b x y) (k : Steps b y z) : Goes b x z := h.trans k.grown
/-- A law that writes one row alone, which is the cursor's block or lay not in x. -/
theorem Goes.grown {b : Nat} {x y z : World} {row : Option Nat} (h : Goes b x y) (k : y.grownBy z row) (hr : ∀ i, row = some i → x.heap.size ≤ i ∨ i = b) : Goes b x z :=
  ⟨k.os.trans h.os, k.tape.trans h.tape, k.output.trans h.output, Nat.le_trans h.size k.size, fun i hi hne =>
    (k.block i (Nat.lt_of_lt_of_le hi h.size) (fun e => by rcases hr i e.symm with h1 | h1; omega; exact hne (by rw [h1]))).trans (h.block i hi hne)⟩
theorem Goes.below {b B : Nat} {x y z : World} (h : Below B x y) (k : Goes b y z) (hB : B ≤ b) (hs : B ≤ y.heap.size) : Below B x z := h.grown k hs (fun i e => by cases e; exact hB)
theorem Goes.setCell {b : Nat} {x y : World} (h : Goes b x y) {p : Addr} (hp : x.heap.size ≤ p.block ∨ p.block = b) (u : Value) : Goes b x (y.setCell p u) :=
  ⟨h.os, h.tape, h.output, by simpa [World.setCell] using h.size, fun i hi hne => (Below.heap_setCell _ _ _ _ (fun e => by rcases hp with h1 | h1; omega; exact hne (by rw [e, h1]))).trans (h.block i hi hne)⟩
theorem Cur.goes {T B b : Nat} {w w' : World} (h : Cur T B w b) (k : Goes b w w') (hb : w'.heap[b]? = w.heap[b]?) : Cur T B w' b := by
  have hlt := h.lt
  have hB := h.base
  refine h.keep fun i hi => ?_
  by_cases e : i = b
  · subst e; exact hb
  · exact k.block i (by omega) (fun e' => e (by injection e'))
theorem Goes.row {b : Nat} {x y : World} (h : Goes b x y) {base : Nat} {e : TypeId} {size : Nat} {v : Value} {n : Nat} {xs : List Value} (ho : x.ownsRow base e size v n xs) (hv : v.ownBlock ≠ some b) : y.ownsRow base e size v n xs :=
  ho.kept h (.inr hv)
theorem Goes.heap {b i : Nat} {x y : World} (h : Goes b x y) {o : Obj} (hi : x.heap[i]? = some o) (hne : i ≠ b) : y.heap[i]? = some o :=
  (h.block i (lt_of_block hi) (fun e => hne (by injection e))).trans hi
/-- An int of 64 bits. -/
def InI64 (n : Int) : Prop := (Lit.int .i64 n).wf = true
theorem inI64_of {n : Int} (h : -9223372036854775808 ≤ n) (k : n ≤ 9223372036854775807) : InI64 n := WalkArith.wf_i64 ⟨h, k⟩
end Go.Proofs.Ytfppnaknnijobab
