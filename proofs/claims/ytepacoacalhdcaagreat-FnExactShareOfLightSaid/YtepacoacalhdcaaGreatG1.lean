/-
  Several texts in one: a claim has at most 60 files.
-/
import Derived.WalkKit
import Derived.Below
import Derived.OpenShut
import Derived.OwnWalk
import Derived.OneCell
import Derived.WalkSmall
import Derived.Laws.BitsAllLaws
import Derived.Test.YtepacoacalhdcaaGreatProg
import Derived.Lib.Hide
import Derived.ChangeSame
import Derived.Deep.Draws
import Derived.Laws.MakeOwn
import Derived.Laws.Entries
import Derived.Outline
import Derived.Laws.StructEq
import Derived.Deep.RegionHeld3
import Derived.LoopTactic
import Derived.Laws.OwnMore
import Derived.Laws.AppendOwn
import Derived.Maps.AppendAt
import Derived.Deep.QuietTactic
import Derived.BigQuiet

namespace Go.Proofs.YtepacoacalhdcaaGreat
set_option linter.unusedVariables false
set_option linter.unusedSimpArgs false
open Go.RowKit

theorem i64_mask (x : Int) (m : Nat) (hm : m < 9223372036854775808) : 0 ≤ bits .and .i64 x (m : Int) ∧ bits .and .i64 x (m : Int) ≤ m := by
  have e : bits .and .i64 x (m : Int) = IntKind.i64.wrap ((BitVec.ofInt 64 x &&& BitVec.ofInt 64 (m : Int)).toNat : Int) := rfl
  have hb : (BitVec.ofInt 64 (m : Int)).toNat = m := by
    rw [BitVec.ofInt_natCast, BitVec.toNat_ofNat]; exact Nat.mod_eq_of_lt (by omega)
  have hle : (BitVec.ofInt 64 x &&& BitVec.ofInt 64 (m : Int)).toNat ≤ m := by
    rw [BitVec.toNat_and, hb]; exact Nat.and_le_right
  rw [e, IntKind.wrap_i64]
  omega

theorem mask255 (x : Int) : 0 ≤ bits .and .i64 x 255 ∧ bits .and .i64 x 255 ≤ 255 := i64_mask x 255 (by omega)

/-- A slice of bytes in memory below block B: the first 'len' cells read as bytes. -/
def BytesAt (B : Nat) (w : World) (a : Option Addr) (len : Nat) : Prop :=
  len ≤ maxLen ∧ (len = 0 ∨ ∃ (blk off : Nat) (f : Nat → Int), a = some ⟨blk, off, none⟩ ∧ blk < B ∧ ∀ j, j < len → w.cell? ⟨blk, off + j, none⟩ = some (.int .u8 (f j)) ∧ 0 ≤ f j ∧ f j ≤ 255)

theorem BytesAt.keep {B : Nat} {w w' : World} {a : Option Addr} {len : Nat} (h : BytesAt B w a len) (hk : ∀ k, k < B → w'.heap[k]? = w.heap[k]?) : BytesAt B w' a len := by
  refine ⟨h.1, ?_⟩
  rcases h.2 with h0 | ⟨blk, off, f, ha, hb, hf⟩
  · exact .inl h0
  · exact .inr ⟨blk, off, f, ha, hb, fun j hj => ⟨(World.cell?_of_block (w := w) (hk blk hb)).trans (hf j hj).1, (hf j hj).2⟩⟩

theorem heap_setCell_self {w : World} {b k : Nat} {c : Array Value} {t : TypeId} {fr : Nat × Nat} (h : w.heap[b]? = some (.cells c t fr)) (u : Value) :
    (w.setCell ⟨b, k, none⟩ u).heap[b]? = some (.cells (c.setIfInBounds k u) t fr) := by
  have hlt := lt_of_block h
  have h' : w.heap[b] = .cells c t fr := by simpa [Array.getElem?_eq_getElem hlt] using h
  show (w.heap.modify b _)[b]? = _
  rw [Array.getElem?_eq_getElem (by simpa using hlt), Array.getElem_modify_self, h']
  rfl

theorem heap_setCell_size (w : World) (a : Addr) (u : Value) : (w.setCell a u).heap.size = w.heap.size := by simp [World.setCell]

theorem heap_drewN (w : World) (n : Nat) : (w.drewN n).heap = w.heap := rfl

theorem cell_of_cells {w : World} {b k : Nat} {c : Array Value} {t : TypeId} (h : w.heap[b]? = some (.cells c t (0, 0))) : w.cell? ⟨b, k, none⟩ = c[k]? := by simp [World.cell?, h]

theorem free_of_cells {w : World} {b k : Nat} {c : Array Value} {t : TypeId} (h : w.heap[b]? = some (.cells c t (0, 0))) : w.frozen? ⟨b, k, none⟩ = false := by simp [World.frozen?, h]

/-- The cursor of a draw at block b (b is not below B; the bytes that it reads lie below B). T: the number of its struct's type. -/
def Cur (T B : Nat) (w : World) (b : Nat) : Prop :=
  B ≤ b ∧ ∃ (a : Option Addr) (len cap i : Nat) (h : Int), w.heap[b]? = some (.cells #[.slice a len cap, .int .i64 i, .int .i64 h] T (0, 0)) ∧ i ≤ len ∧ BytesAt B w a len

theorem Cur.keep {T B b : Nat} {w w' : World} (h : Cur T B w b) (hk : ∀ k, k < B ∨ k = b → w'.heap[k]? = w.heap[k]?) : Cur T B w' b := by
  obtain ⟨hB, a, len, cap, i, hh, hb, hi, hby⟩ := h
  exact ⟨hB, a, len, cap, i, hh, (hk b (.inr rfl)).trans hb, hi, hby.keep fun k hk' => hk k (.inl hk')⟩

theorem Cur.lt {T B b : Nat} {w : World} (h : Cur T B w b) : b < w.heap.size := by
  obtain ⟨_, a, len, cap, i, hh, hb, _⟩ := h
  exact lt_of_block hb

theorem Cur.base {T B b : Nat} {w : World} (h : Cur T B w b) : B ≤ b := h.1

/-- Behind a law that ends in 'grownBy': the row written is one of the call's own and not the cursor's. -/
theorem Cur.grown {T B b : Nat} {w w' : World} {row : Option Nat} (h : Cur T B w b) (hg : w.grownBy w' row) (hr : ∀ k, row = some k → B ≤ k ∧ k ≠ b) : Cur T B w' b := by
  have hlt := h.lt
  have hB := h.base
  refine h.keep fun k hk => hg.block k (by omega) fun e => ?_
  have := hr k e.symm
  omega

theorem Cur.drewN {T B b : Nat} {w : World} (h : Cur T B w b) (n : Nat) : Cur T B (w.drewN n) b := h

theorem Cur.alloc {T B b : Nat} {w : World} (h : Cur T B w b) (o : Obj) : Cur T B (w.alloc o) b := h.grown (World.grownBy_alloc w o none) (fun _ e => by cases e)

/-- What a step of the cursor at block b does: no block but b has turned, none is new. -/
structure Steps (b : Nat) (w w' : World) : Prop where
  os : w'.os = w.os
  tape : w'.tape = w.tape
  output : w'.output = w.output
  size : w'.heap.size = w.heap.size
  block : ∀ k, k ≠ b → w'.heap[k]? = w.heap[k]?

theorem Steps.refl (b : Nat) (w : World) : Steps b w w := ⟨rfl, rfl, rfl, rfl, fun _ _ => rfl⟩

theorem Steps.trans {b : Nat} {x y z : World} (h : Steps b x y) (k : Steps b y z) : Steps b x z :=
  ⟨k.os.trans h.os, k.tape.trans h.tape, k.output.trans h.output, k.size.trans h.size, fun i hi => (k.block i hi).trans (h.block i hi)⟩

theorem Steps.drewN {b : Nat} {x y : World} (h : Steps b x y) (n : Nat) : Steps b x (y.drewN n) := ⟨h.os, h.tape, h.output, h.size, h.block⟩

theorem Steps.drew {b : Nat} {x y : World} (h : Steps b x y) : Steps b x y.drew := ⟨h.os, h.tape, h.output, h.size, h.block⟩

theorem Steps.setCell {b k : Nat} {x y : World} (h : Steps b x y) (u : Value) : Steps b x (y.setCell ⟨b, k, none⟩ u) :=
  h.trans ⟨rfl, rfl, rfl, heap_setCell_size _ _ _, fun i hi => Below.heap_setCell _ _ _ _ hi⟩

theorem Steps.grown {b : Nat} {x y : World} (h : Steps b x y) : x.grownBy y (some b) :=
  ⟨h.os, h.tape, h.output, by rw [h.size]; exact Nat.le_refl _, fun k _ hk => h.block k fun e => hk (by rw [e])⟩

theorem Steps.below {b B : Nat} {x y : World} (h : Steps b x y) (hB : B ≤ b) : Below B x y :=
  ⟨h.os, h.tape, h.output, by rw [h.size]; exact Nat.le_refl _, fun k hk => h.block k (by omega)⟩

/-- Two cursors never meet; a row of the call's own stays owned. -/
theorem Steps.row {b : Nat} {x y : World} (h : Steps b x y) {base : Nat} {e : TypeId} {size : Nat} {v : Value} {n : Nat} {xs : List Value} (ho : x.ownsRow base e size v n xs) (hv : v.ownBlock ≠ some b) : y.ownsRow base e size v n xs :=
  ho.kept h.grown (.inr hv)

/-- 'Goes b w w'': of what lay in w only block b may have turned; new blocks may have come. -/
def Goes (b : Nat) (w w' : World) : Prop := w.grownBy w' (some b)

theorem Goes.refl (b : Nat) (w : World) : Goes b w w := ⟨rfl, rfl, rfl, Nat.le_refl _, fun _ _ _ => rfl⟩

theorem Goes.trans {b : Nat} {x y z : World} (h : Goes b x y) (k : Goes b y z) : Goes b x z :=
  ⟨k.os.trans h.os, k.tape.trans h.tape, k.output.trans h.output, Nat.le_trans h.size k.size, fun i hi hne => (k.block i (Nat.lt_of_lt_of_le hi h.size) hne).trans (h.block i hi hne)⟩

theorem Goes.drew {b : Nat} {x y : World} (h : Goes b x y) : Goes b x y.drew := ⟨h.os, h.tape, h.output, h.size, h.block⟩

theorem Goes.drewN {b : Nat} {x y : World} (h : Goes b x y) (n : Nat) : Goes b x (y.drewN n) := ⟨h.os, h.tape, h.output, h.size, h.block⟩

theorem Goes.alloc {b : Nat} {x y : World} (h : Goes b x y) (o : Obj) : Goes b x (y.alloc o) := h.trans (World.grownBy_alloc y o (some b))

theorem Goes.steps {b : Nat} {x y z : World} (h : Goes b x y) (k : Steps b y z) : Goes b x z := h.trans k.grown

/-- A law that writes one row alone, which is the cursor's block or lay not in x. -/
theorem Goes.grown {b : Nat} {x y z : World} {row : Option Nat} (h : Goes b x y) (k : y.grownBy z row) (hr : ∀ i, row = some i → x.heap.size ≤ i ∨ i = b) : Goes b x z :=
  ⟨k.os.trans h.os, k.tape.trans h.tape, k.output.trans h.output, Nat.le_trans h.size k.size, fun i hi hne =>
    (k.block i (Nat.lt_of_lt_of_le hi h.size) (fun e => by rcases hr i e.symm with h1 | h1; omega; exact hne (by rw [h1]))).trans (h.block i hi hne)⟩

theorem Goes.below {b B : Nat} {x y z : World} (h : Below B x y) (k : Goes b y z) (hB : B ≤ b) (hs : B ≤ y.heap.size) : Below B x z := h.grown k hs (fun i e => by cases e; exact hB)

theorem Goes.setCell {b : Nat} {x y : World} (h : Goes b x y) {p : Addr} (hp : x.heap.size ≤ p.block ∨ p.block = b) (u : Value) : Goes b x (y.setCell p u) :=
  ⟨h.os, h.tape, h.output, by simpa [World.setCell] using h.size, fun i hi hne => (Below.heap_setCell _ _ _ _ (fun e => by rcases hp with h1 | h1; omega; exact hne (by rw [e, h1]))).trans (h.block i hi hne)⟩

theorem Cur.goes {T B b : Nat} {w w' : World} (h : Cur T B w b) (k : Goes b w w') (hb : w'.heap[b]? = w.heap[b]?) : Cur T B w' b := by
  have hlt := h.lt
  have hB := h.base
  refine h.keep fun i hi => ?_
  by_cases e : i = b
  · subst e; exact hb
  · exact k.block i (by omega) (fun e' => e (by injection e'))

theorem Goes.row {b : Nat} {x y : World} (h : Goes b x y) {base : Nat} {e : TypeId} {size : Nat} {v : Value} {n : Nat} {xs : List Value} (ho : x.ownsRow base e size v n xs) (hv : v.ownBlock ≠ some b) : y.ownsRow base e size v n xs :=
  ho.kept h (.inr hv)

theorem Goes.heap {b i : Nat} {x y : World} (h : Goes b x y) {o : Obj} (hi : x.heap[i]? = some o) (hne : i ≠ b) : y.heap[i]? = some o :=
  (h.block i (lt_of_block hi) (fun e => hne (by injection e))).trans hi

/-- An int of 64 bits. -/
def InI64 (n : Int) : Prop := (Lit.int .i64 n).wf = true

theorem inI64_of {n : Int} (h : -9223372036854775808 ≤ n) (k : n ≤ 9223372036854775807) : InI64 n := WalkArith.wf_i64 ⟨h, k⟩
end Go.Proofs.YtepacoacalhdcaaGreat

namespace Go.Proofs.YtepacoacalhdcaaGreat
set_option linter.unusedVariables false
set_option linter.unusedSimpArgs false
open Go.RowKit

theorem ret_int {k : IntKind} {a b : Int} (h : a = b) : Ending.returned (.int k a) = .returned (.int k b) := by rw [h]

theorem ret_str {a b : ByteArray} (h : a = b) : Ending.returned (.string a) = .returned (.string b) := by rw [h]

theorem ret_bool {a b : Bool} (h : a = b) : Ending.returned (.bool a) = .returned (.bool b) := by rw [h]

theorem bcell {W w1 : World} (hb : Below W.heap.size W w1) : (∀ b o, b < W.heap.size → w1.cell? ⟨b, o, none⟩ = W.cell? ⟨b, o, none⟩) ∧ (∀ b o, b < W.heap.size → w1.frozen? ⟨b, o, none⟩ = W.frozen? ⟨b, o, none⟩) :=
  ⟨fun b o h => hb.cell (p := ⟨b, o, none⟩) h, fun b o h => hb.frozen (p := ⟨b, o, none⟩) h⟩

theorem below_drewN {B : Nat} {a w : World} (h : Below B a w) (n : Nat) : Below B a (w.drewN n) := ⟨h.os, h.tape, h.output, h.size, h.block⟩
open Go.WideShapes Go.ChangeShapes

section

variable {H : Type} {enc : TypeId × Value → H} {P : Program}

theorem post_of_below {f : Func} {s : ChangeSpec} {apart fresh handsOn again : Bool} {W W' : World} {args : Array Value} {v : Value} {ds gs : List (DataW H)} {before pa pv : List MemPlace}
    (hW : DataW.Whole enc P f.params.toList s.vars apart W args.toList ds gs before)
    (hres : ∀ (b : Nat) (sp : Nat → Bool) (hd : Bool), DataW.TrodAll enc P W' b sp hd f.resultTypes.toList (v.resultList f.resultTypes.size) (s.fn H (ds ++ gs)).results [])
    (hargs : ∀ sp : Nat → Bool, (∀ p ∈ before, sp p.block = true) → DataW.TrodAll enc P W' 0 sp true f.params.toList args.toList (s.fn H (ds ++ gs)).args pa)
    (hvars : ∀ sp : Nat → Bool, (∀ p ∈ before, sp p.block = true) → DataW.TrodVars enc P W' sp s.vars (s.fn H (ds ++ gs)).vars pv)
    (hps : before = pa ++ pv) (hb : Below W.heap.size W W')
    (hok : ∀ (j : Nat) (t : TypeId) (r : Value), f.resultTypes[j]? = some t → (v.resultList f.resultTypes.size)[j]? = some r → Value.okWide P W' .any 0 t r) :
    s.post enc P f apart fresh handsOn again W args v W' := by
  have hlt : ∀ p ∈ before, p.block < W.heap.size := fun p hp => hW.lt p hp
  have hold : ∀ p ∈ before, (fun b => decide (b < W.heap.size)) p.block = true := fun p hp => by simpa using hlt p hp
  refine ⟨ds, gs, before, [], pa, pv, hW, hres _ _ _, hargs _ hold, hvars _ hold, World.keptBut_mono (fun p hp => ⟨hp, ?_⟩) (hb.frame (· ∈ before)), fun _ => ?_⟩
  · rw [hps, List.mem_append] at hp
    exact Or.inr hp
  · obtain ⟨_, _, _, _, _, hz, hn⟩ := hW
    refine ⟨hok, _, _, ([] ++ pa) ++ pv, ⟨[] ++ pa, pv, trodAll_append (hargs _ (fun _ _ => rfl)) (hres _ _ _), hvars _ (fun _ _ => rfl), rfl, ?_, ?_⟩, ?_⟩
    · intro b off hp
      have hin : MemPlace.cell b off ∈ before := by rw [hps]; simpa using hp
      rw [hb.frozen (hlt _ hin)]
      exact hz b off hin
    · intro ha
      have := hn ha
      rw [hps] at this
      simpa using this
    · intro p hp _
      rw [hps]
      simpa using hp

end
end Go.Proofs.YtepacoacalhdcaaGreat

namespace Go.Proofs.YtepacoacalhdcaaGreat
open Go.RowKit
set_option linter.unusedVariables false
set_option linter.unusedSimpArgs false

/-- Cells that read so: block, place, value. -/
def Cs (W : World) : List (Nat × Nat × Value) → Prop
  | [] => True
  | (b, o, v) :: fs => W.cell? ⟨b, o, none⟩ = some v ∧ Cs W fs

def Bs (n : Nat) : List (Nat × Nat × Value) → Prop
  | [] => True
  | (b, _, _) :: fs => b < n ∧ Bs n fs

theorem Cs.keep {W w1 : World} {n : Nat} : ∀ {fs : List (Nat × Nat × Value)}, Bs n fs → Cs W fs → (∀ b o, b < n → w1.cell? ⟨b, o, none⟩ = W.cell? ⟨b, o, none⟩) → Cs w1 fs
  | [], _, _, _ => trivial
  | (_, _, _) :: _, hb, hc, hk => ⟨(hk _ _ hb.1).trans hc.1, Cs.keep hb.2 hc.2 hk⟩

theorem Bs.mono {n m : Nat} (h : n ≤ m) : ∀ {fs : List (Nat × Nat × Value)}, Bs n fs → Bs m fs
  | [], _ => trivial
  | (_, _, _) :: _, hb => ⟨Nat.lt_of_lt_of_le hb.1 h, Bs.mono h hb.2⟩

theorem Cs.append {W : World} : ∀ {fs gs : List (Nat × Nat × Value)}, Cs W fs → Cs W gs → Cs W (fs ++ gs)
  | [], _, _, h => h
  | (_, _, _) :: _, _, h, k => ⟨h.1, Cs.append h.2 k⟩

theorem Bs.append {n : Nat} : ∀ {fs gs : List (Nat × Nat × Value)}, Bs n fs → Bs n gs → Bs n (fs ++ gs)
  | [], _, _, h => h
  | (_, _, _) :: _, _, h, k => ⟨h.1, Bs.append h.2 k⟩

/-- In W the cells fs read so; below the heap's size of w nothing has turned. -/
def Held (w W : World) (fs : List (Nat × Nat × Value)) : Prop := Cs W fs ∧ Bs W.heap.size fs ∧ Below w.heap.size w W

section

variable {w W w1 : World} {fs : List (Nat × Nat × Value)}

theorem Held.none_ (w : World) : Held w w [] := ⟨trivial, trivial, Below.refl _ _⟩

theorem Held.start (hc : Cs w fs) (hb : Bs w.heap.size fs) : Held w w fs := ⟨hc, hb, Below.refl _ _⟩

theorem Held.step (h : Held w W fs) (hb : Below W.heap.size W w1) : Held w w1 fs :=
  ⟨h.1.keep h.2.1 fun b o hlt => hb.cell (p := ⟨b, o, none⟩) hlt, h.2.1.mono hb.size, h.2.2.trans (hb.mono h.2.2.size)⟩

theorem Held.drew (h : Held w W fs) : Held w W.drew fs := ⟨h.1.keep h.2.1 fun _ _ _ => rfl, h.2.1, h.2.2.drew⟩

theorem Held.drewN (h : Held w W fs) (n : Nat) : Held w (W.drewN n) fs := ⟨h.1.keep h.2.1 fun _ _ _ => rfl, h.2.1, below_drewN h.2.2 n⟩

theorem Held.alloc (h : Held w W fs) (o : Obj) : Held w (W.alloc o) fs := h.step ((Below.refl _ _).alloc (Nat.le_refl _) o)

def newFs (b : Nat) : Nat → List Value → List (Nat × Nat × Value)
  | _, [] => []
  | k, v :: vs => (b, k, v) :: newFs b (k + 1) vs

theorem newFs_cs {W : World} {b : Nat} {cs : Array Value} {T : TypeId} {fr : Nat × Nat} (h : W.heap[b]? = some (.cells cs T fr)) : ∀ (vs : List Value) (k : Nat), (∀ j, j < vs.length → cs[k + j]? = vs[j]?) → Cs W (newFs b k vs)
  | [], _, _ => trivial
  | v :: vs, k, hv => ⟨by have := hv 0 (by simp); simp [World.cell?, h] at this ⊢; exact this, newFs_cs h vs (k + 1) fun j hj => by
      have := hv (j + 1) (by simp; omega)
      rw [Nat.add_assoc, Nat.add_comm 1 j]; simpa using this⟩

theorem newFs_bs {n b : Nat} (h : b < n) : ∀ (vs : List Value) (k : Nat), Bs n (newFs b k vs)
  | [], _ => trivial
  | _ :: vs, k => ⟨h, newFs_bs h vs (k + 1)⟩

/-- A new block comes into view. -/
theorem Held.new (h : Held w W fs) (vs : List Value) (T : TypeId) : Held w (W.alloc (.cells vs.toArray T)) (newFs W.heap.size 0 vs ++ fs) :=
  ⟨(newFs_cs (heap_alloc_new W _) vs 0 (by simp)).append (h.alloc _).1, (newFs_bs (by simp) vs 0).append (h.alloc _).2.1, (h.alloc _).2.2⟩

/-- The same, the new block's number as the walk spells it. -/
theorem Held.new2 (h : Held w W fs) (b : Nat) (hb : b = W.heap.size) (vs : List Value) (T : TypeId) : Held w (W.alloc (.cells vs.toArray T)) (newFs b 0 vs ++ fs) := by subst hb; exact h.new vs T

theorem Held.only (h : Held w W fs) {gs : List (Nat × Nat × Value)} (hc : Cs W fs → Cs W gs) (hb : Bs W.heap.size fs → Bs W.heap.size gs) : Held w W gs := ⟨hc h.1, hb h.2.1, h.2.2⟩

theorem Held.drop (h : Held w W fs) : Held w W [] := ⟨trivial, trivial, h.2.2⟩

theorem Held.below (h : Held w W fs) : Below w.heap.size w W := h.2.2

end
end Go.Proofs.YtepacoacalhdcaaGreat

namespace Go.Proofs.YtepacoacalhdcaaGreat
open Go.RowKit
set_option linter.unusedVariables false
set_option linter.unusedSimpArgs false

structure Nd where
  x : Int
  y : Int
deriving DecidableEq

/-- A node as a value. -/
def Nd.val (n : Nd) : Value := .agg #[.int .i64 n.x, .int .i64 n.y]

def inB (x a b : Int) : Bool := decide (a ≤ x) && decide (x ≤ b)

def okB (n : Nd) : Bool := inB n.x 0 20 && inB n.y 0 20

theorem inB_iff (x a b : Int) : inB x a b = true ↔ a ≤ x ∧ x ≤ b := by simp [inB]

theorem okB_iff (n : Nd) : okB n = true ↔ (0 ≤ n.x ∧ n.x ≤ 20) ∧ (0 ≤ n.y ∧ n.y ≤ 20) := by simp [okB, inB]

def turnI (a b c : Nd) : Int := (b.x - a.x) * (c.y - a.y) - (b.y - a.y) * (c.x - a.x)

theorem prod_bd {p q : Int} (n : Nat) (h1 : -(n : Int) ≤ p) (h2 : p ≤ n) (h3 : -(n : Int) ≤ q) (h4 : q ≤ n) : -((n : Int) * n) ≤ p * q ∧ p * q ≤ (n : Int) * n := by
  have a1 : 0 ≤ ((n : Int) - p) * (n - q) := Int.mul_nonneg (by omega) (by omega)
  have a2 : 0 ≤ ((n : Int) + p) * (n + q) := Int.mul_nonneg (by omega) (by omega)
  have a3 : 0 ≤ ((n : Int) - p) * (n + q) := Int.mul_nonneg (by omega) (by omega)
  have a4 : 0 ≤ ((n : Int) + p) * (n - q) := Int.mul_nonneg (by omega) (by omega)
  rw [Int.sub_mul, Int.mul_sub, Int.mul_sub] at a1
  rw [Int.add_mul, Int.mul_add, Int.mul_add] at a2
  rw [Int.sub_mul, Int.mul_add, Int.mul_add] at a3
  rw [Int.add_mul, Int.mul_sub, Int.mul_sub] at a4
  omega

def betweenB (a b c : Nd) : Bool :=
  okB a && okB b && okB c && decide (a ≠ b) && decide (b ≠ c) && decide (a ≠ c) && decide (turnI a b c = 0) &&
  (inB c.x (min a.x b.x) (max a.x b.x) && inB c.y (min a.y b.y) (max a.y b.y))

def turnOf (a b c : Nd) : Int := if okB a && okB b && okB c then turnI a b c else 0

def lenSq (a b : Nd) : Int := if okB a && okB b then (b.x - a.x) * (b.x - a.x) + (b.y - a.y) * (b.y - a.y) else -1

def halfI (a b : Nd) : Int := if a.y < b.y ∨ (b.y = a.y ∧ a.x < b.x) then 0 else 1

def beforeB (a b c : Nd) : Bool := okB a && okB b && okB c && (if halfI a b = halfI a c then decide (0 < turnI a b c) else decide (halfI a b < halfI a c))

theorem nd_ne {a b : Nd} : a ≠ b ↔ a.x ≠ b.x ∨ a.y ≠ b.y := by
  cases a; cases b
  simp only [ne_eq, Nd.mk.injEq]
  omega

theorem turn_bd {a b c : Nd} (ha : okB a = true) (hb : okB b = true) (hc : okB c = true) : -800 ≤ turnI a b c ∧ turnI a b c ≤ 800 := by
  rw [okB_iff] at ha hb hc
  unfold turnI
  obtain ⟨p1, p2⟩ := prod_bd (p := b.x - a.x) (q := c.y - a.y) 20 (by omega) (by omega) (by omega) (by omega)
  obtain ⟨q1, q2⟩ := prod_bd (p := b.y - a.y) (q := c.x - a.x) 20 (by omega) (by omega) (by omega) (by omega)
  omega

theorem turnOf_ok {a b c : Nd} (ha : okB a = true) (hb : okB b = true) (hc : okB c = true) : turnOf a b c = turnI a b c := by
  unfold turnOf; rw [ha, hb, hc]; rfl

end Go.Proofs.YtepacoacalhdcaaGreat

namespace Go.Proofs.YtepacoacalhdcaaGreat
open Go.RowKit
set_option linter.unusedVariables false
set_option linter.unusedSimpArgs false

def atN (xs : List Nd) (k : Nat) : Nd := xs.getD k ⟨0, 0⟩

def atI (xs : List Nd) (i : Int) : Nd := xs.getD i.toNat ⟨0, 0⟩

theorem atN_mem {xs : List Nd} {k : Nat} (h : k < xs.length) : atN xs k ∈ xs := by unfold atN; simp [List.getD, h]

theorem atN_get {xs : List Nd} {k : Nat} (h : k < xs.length) : xs[k] = atN xs k := by unfold atN; simp [List.getD, h]

theorem take_atN {xs : List Nd} {k : Nat} (h : k < xs.length) : xs.take (k + 1) = xs.take k ++ [atN xs k] := by
  rw [List.take_succ_eq_append_getElem h, atN_get h]

theorem atI_nat (xs : List Nd) (k : Nat) : atI xs (k : Int) = atN xs k := rfl

/-- The cells at block b from place o on read as the pairs xs. -/
def CellsAt (w : World) (b o : Nat) (xs : List Nd) : Prop :=
  ∀ k, k < xs.length → w.cell? ⟨b, o + k * 2, none⟩ = some (.int .i64 (atN xs k).x) ∧ w.cell? ⟨b, o + k * 2 + 1, none⟩ = some (.int .i64 (atN xs k).y)

/-- The slice value v reads as the pairs xs. -/
def Prs (w : World) (v : Value) (xs : List Nd) : Prop :=
  ∃ (A : Option Addr) (c : Nat), v = .slice A xs.length c ∧ xs.length ≤ c ∧ c ≤ maxLen ∧ (0 < xs.length → ∃ b o, A = some ⟨b, o, none⟩ ∧ b < w.heap.size ∧ CellsAt w b o xs)

theorem CellsAt.keep {w w' : World} {b o : Nat} {xs : List Nd} (h : CellsAt w b o xs) (hk : ∀ k, w'.cell? ⟨b, k, none⟩ = w.cell? ⟨b, k, none⟩) : CellsAt w' b o xs :=
  fun k hlt => ⟨(hk _).trans (h k hlt).1, (hk _).trans (h k hlt).2⟩

theorem Prs.step {w w' : World} {v : Value} {xs : List Nd} (h : Prs w v xs) (hb : Below w.heap.size w w') : Prs w' v xs := by
  obtain ⟨A, c, rfl, hl, hc, hx⟩ := h
  refine ⟨A, c, rfl, hl, hc, fun h0 => ?_⟩
  obtain ⟨b, o, rfl, hlt, hcs⟩ := hx h0
  exact ⟨b, o, rfl, Nat.lt_of_lt_of_le hlt hb.size, hcs.keep fun k => hb.cell (p := ⟨b, k, none⟩) hlt⟩

theorem prs_at2 {w : World} {v : Value} {xs : List Nd} (h : Prs w v xs) {k : Nat} (hk : k < xs.length) :
    ∃ (b o c : Nat), v = .slice (some ⟨b, o, none⟩) xs.length c ∧ b < w.heap.size ∧ CellsAt w b o xs := by
  obtain ⟨A, c, rfl, hl, hc, hx⟩ := h
  obtain ⟨b, o, rfl, hlt, hcs⟩ := hx (by omega)
  exact ⟨b, o, c, rfl, hlt, hcs⟩

theorem prs_form2 {w : World} {v : Value} {xs : List Nd} (h : Prs w v xs) : ∃ (A : Option Addr) (c : Nat), v = .slice A xs.length c := by
  obtain ⟨A, c, rfl, _⟩ := h
  exact ⟨A, c, rfl⟩

theorem Prs.nil_ (w : World) : Prs w (.slice none 0 0) [] := ⟨none, 0, rfl, Nat.le_refl _, Nat.zero_le _, fun h => absurd h (by simp)⟩

theorem Prs.len {w : World} {v : Value} {xs : List Nd} (h : Prs w v xs) : xs.length ≤ 9223372036854775807 := by
  obtain ⟨A, c, rfl, hl, hc, hx⟩ := h
  unfold maxLen at hc
  omega

/-- The cells of one pair, for a walk that keeps them in view. -/
def P1 (b o : Nat) (xs : List Nd) (k : Nat) : List (Nat × Nat × Value) := [(b, o + k * 2, .int .i64 (atN xs k).x), (b, o + k * 2 + 1, .int .i64 (atN xs k).y)]

theorem P1_cs {w : World} {b o : Nat} {xs : List Nd} (h : CellsAt w b o xs) {k : Nat} (hk : k < xs.length) : Cs w (P1 b o xs k) := ⟨(h k hk).1, (h k hk).2, trivial⟩

theorem P1_bs {n b o : Nat} {xs : List Nd} {k : Nat} (h : b < n) : Bs n (P1 b o xs k) := ⟨h, h, trivial⟩
end Go.Proofs.YtepacoacalhdcaaGreat

namespace Go.Proofs.YtepacoacalhdcaaGreat
open Go.RowKit
set_option linter.unusedVariables false
set_option linter.unusedSimpArgs false

/-- The first k pairs of the cells C read as those of xs; C holds n pairs. -/
def Half (C : Array Value) (n : Nat) (xs : List Nd) (k : Nat) : Prop :=
  C.size = n * 2 ∧ (∀ j, j < n → ∃ p q : Int, C[j * 2]? = some (.int .i64 p) ∧ C[j * 2 + 1]? = some (.int .i64 q)) ∧
  ∀ j, j < k → C[j * 2]? = some (.int .i64 (atN xs j).x) ∧ C[j * 2 + 1]? = some (.int .i64 (atN xs j).y)

theorem Half.set_ {C : Array Value} {n : Nat} {xs : List Nd} {k : Nat} (h : Half C n xs k) (hk : k < n) :
    Half ((C.setIfInBounds (k * 2) (.int .i64 (atN xs k).x)).setIfInBounds (k * 2 + 1) (.int .i64 (atN xs k).y)) n xs (k + 1) := by
  obtain ⟨hs, ha, hd⟩ := h
  have e0 : ∀ (u v : Value) (j : Nat), j ≠ k → ((C.setIfInBounds (k * 2) u).setIfInBounds (k * 2 + 1) v)[j * 2]? = C[j * 2]? ∧ ((C.setIfInBounds (k * 2) u).setIfInBounds (k * 2 + 1) v)[j * 2 + 1]? = C[j * 2 + 1]? := by
    intro u v j hj
    constructor
    · rw [Array.getElem?_setIfInBounds_ne (by omega), Array.getElem?_setIfInBounds_ne (by omega)]
    · rw [Array.getElem?_setIfInBounds_ne (by omega), Array.getElem?_setIfInBounds_ne (by omega)]
  have e1 : ∀ (u v : Value), ((C.setIfInBounds (k * 2) u).setIfInBounds (k * 2 + 1) v)[k * 2]? = some u ∧ ((C.setIfInBounds (k * 2) u).setIfInBounds (k * 2 + 1) v)[k * 2 + 1]? = some v := by
    intro u v
    constructor
    · rw [Array.getElem?_setIfInBounds_ne (by omega), Array.getElem?_setIfInBounds_self_of_lt (by omega)]
    · rw [Array.getElem?_setIfInBounds_self_of_lt (by simp; omega)]
  refine ⟨by simpa using hs, fun j hj => ?_, fun j hj => ?_⟩
  · by_cases hjk : j = k
    · subst hjk
      exact ⟨_, _, (e1 _ _).1, (e1 _ _).2⟩
    · obtain ⟨p, q, h1, h2⟩ := ha j hj
      exact ⟨p, q, (e0 _ _ j hjk).1.trans h1, (e0 _ _ j hjk).2.trans h2⟩
  · by_cases hjk : j = k
    · subst hjk
      exact e1 _ _
    · obtain ⟨h1, h2⟩ := hd j (by omega)
      exact ⟨(e0 _ _ j hjk).1.trans h1, (e0 _ _ j hjk).2.trans h2⟩

/-- Block g is known whole: n pairs of type T, of which the first k read as those of xs. -/
def HalfAt (w : World) (g : Nat) (T : TypeId) (n : Nat) (xs : List Nd) (k : Nat) : Prop := ∃ C : Array Value, w.heap[g]? = some (.cells C T (0, 0)) ∧ Half C n xs k

theorem HalfAt.lt {w : World} {g : Nat} {T : TypeId} {n : Nat} {xs : List Nd} {k : Nat} (h : HalfAt w g T n xs k) : g < w.heap.size := by
  obtain ⟨C, hC, _⟩ := h
  exact lt_of_block hC

theorem HalfAt.keep {w w' : World} {g : Nat} {T : TypeId} {n : Nat} {xs : List Nd} {k : Nat} (h : HalfAt w g T n xs k) (hk : w'.heap[g]? = w.heap[g]?) : HalfAt w' g T n xs k := by
  obtain ⟨C, hC, hh⟩ := h
  exact ⟨C, hk.trans hC, hh⟩

theorem HalfAt.below {w w' : World} {g : Nat} {T : TypeId} {n : Nat} {xs : List Nd} {k : Nat} (h : HalfAt w g T n xs k) (hb : Below w.heap.size w w') : HalfAt w' g T n xs k := h.keep (hb.block g h.lt)

/-- The slice v reads as xs; its memory is a block of its own from B on, of element type T, known whole. -/
def Mine (w : World) (B : Nat) (T : TypeId) (v : Value) (xs : List Nd) : Prop :=
  ∃ (A : Option Addr) (c n : Nat), v = .slice A xs.length c ∧ xs.length ≤ c ∧ c ≤ maxLen ∧ (0 < xs.length → ∃ g, A = some ⟨g, 0, none⟩ ∧ B ≤ g ∧ xs.length ≤ n ∧ HalfAt w g T n xs xs.length)

theorem Mine.prs {w : World} {B : Nat} {T : TypeId} {v : Value} {xs : List Nd} (h : Mine w B T v xs) : Prs w v xs := by
  obtain ⟨A, c, n, rfl, hl, hc, hx⟩ := h
  refine ⟨A, c, rfl, hl, hc, fun h0 => ?_⟩
  obtain ⟨g, rfl, _, hn, C, hC, hs, ha, hd⟩ := hx h0
  refine ⟨g, 0, rfl, lt_of_block hC, fun k hk => ?_⟩
  obtain ⟨h1, h2⟩ := hd k hk
  constructor
  · rw [Nat.zero_add, cell_of_cells hC]; exact h1
  · rw [Nat.zero_add, cell_of_cells hC]; exact h2

theorem Mine.below {w w' : World} {B : Nat} {T : TypeId} {v : Value} {xs : List Nd} (h : Mine w B T v xs) (hb : Below w.heap.size w w') : Mine w' B T v xs := by
  obtain ⟨A, c, n, rfl, hl, hc, hx⟩ := h
  refine ⟨A, c, n, rfl, hl, hc, fun h0 => ?_⟩
  obtain ⟨g, rfl, hB, hn, hh⟩ := hx h0
  exact ⟨g, rfl, hB, hn, hh.below hb⟩

theorem Mine.mono {w : World} {B B' : Nat} {T : TypeId} {v : Value} {xs : List Nd} (h : Mine w B T v xs) (hB : B' ≤ B) : Mine w B' T v xs := by
  obtain ⟨A, c, n, rfl, hl, hc, hx⟩ := h
  refine ⟨A, c, n, rfl, hl, hc, fun h0 => ?_⟩
  obtain ⟨g, rfl, hg, hn, hh⟩ := hx h0
  exact ⟨g, rfl, by omega, hn, hh⟩

theorem run_make_rowN {P : Program} (t e : TypeId) (i : TypeInfo) (z : Value) (ht : P.underlying t = some (.slice e)) (hi : P.info? e = some i) (hz : i.zero = some z)
    (kl kc : IntKind) (n c : Nat) (hnc : n ≤ c) (hbytes : i.bytes * c ≤ 281474976710656) (h63 : c ≤ 9223372036854775807) (w : World) :
    (Instr.makeSlice t (.int kl (n : Int)) (.int kc (c : Int))).run P w = .ok (.slice (some ⟨w.heap.size, 0, none⟩) n c) (w.alloc (.cells (madeCells z.cells (c * i.size)) e)) := by
  have hb : (i.bytes : Int) * (c : Int) ≤ 281474976710656 := by
    have h : ((i.bytes * c : Nat) : Int) ≤ 281474976710656 := by omega
    rwa [Int.natCast_mul] at h
  have hr := run_make (P := P) w t e i z ht hi hz kl kc n c (by omega) (by omega) hb (by omega)
  simp only [Int.toNat_natCast] at hr
  exact hr
end Go.Proofs.YtepacoacalhdcaaGreat

namespace Go.Proofs.YtepacoacalhdcaaGreat
open Go.RowKit
set_option linter.unusedVariables false
set_option linter.unusedSimpArgs false

theorem specIn (x a b : Int) (w : World) :
    Calls Tryz.prog 70 #[.int .i64 x, .int .i64 a, .int .i64 b] w fun e w' => e = .returned (.bool (inB x a b)) ∧ w = w' := by
  by_cases h : a ≤ x
  · go_enter Tryz.func70, Tryz.ntmps70
    go_wp2
    go_ret
    exact ⟨ret_bool (by unfold inB; rw [decide_eq_true h]; rfl), rfl⟩
  · go_enter Tryz.func70, Tryz.ntmps70
    go_wp2
    go_ret
    exact ⟨ret_bool (by unfold inB; rw [decide_eq_false (by omega)]; rfl), rfl⟩

def BoolIs (v : Bool) (w : World) (e : Ending) (w' : World) : Prop := e = .returned (.bool v) ∧ Below w.heap.size w w'

def IntIs (v : Int) (w : World) (e : Ending) (w' : World) : Prop := e = .returned (.int .i64 v) ∧ Below w.heap.size w w'

theorem specNodeOk (n : Nd) (w : World) :
    Calls Tryz.prog 178 #[n.val] w (BoolIs (okB n) w) := by
  obtain ⟨x, y⟩ := n
  unfold Nd.val okB
  by_cases h : inB x 0 20 = true
  · go_enter Tryz.func178, Tryz.ntmps178
    go_wp2_with fail
    refine (specIn _ _ _ _).mono ?_
    rintro e w' ⟨rfl, rfl⟩
    go_wp2_with fail
    refine (specIn _ _ _ _).mono ?_
    rintro e w' ⟨rfl, rfl⟩
    go_wp2_with fail
    go_ret
    exact ⟨ret_bool (by simp [h]), (Below.refl _ _).alloc (Nat.le_refl _) _⟩
  · have h' : inB x 0 20 = false := by simpa using h
    clear h
    go_enter Tryz.func178, Tryz.ntmps178
    go_wp2_with fail
    refine (specIn _ _ _ _).mono ?_
    rintro e w' ⟨rfl, rfl⟩
    go_wp2_with fail
    go_ret
    exact ⟨ret_bool (by simp [h']), (Below.refl _ _).alloc (Nat.le_refl _) _⟩

theorem specTurn (a b c : Nd) (w : World) (ha : okB a = true) (hb : okB b = true) (hc : okB c = true) :
    Calls Tryz.prog 201 #[a.val, b.val, c.val] w (IntIs (turnI a b c) w) := by
  obtain ⟨ax, ay⟩ := a
  obtain ⟨bx, by'⟩ := b
  obtain ⟨cx, cy⟩ := c
  rw [okB_iff] at ha hb hc
  obtain ⟨⟨a1, a2⟩, a3, a4⟩ := ha
  obtain ⟨⟨b1, b2⟩, b3, b4⟩ := hb
  obtain ⟨⟨c1, c2⟩, c3, c4⟩ := hc
  simp only at a1 a2 a3 a4 b1 b2 b3 b4 c1 c2 c3 c4
  unfold Nd.val turnI
  obtain ⟨p1, p2⟩ := prod_bd (p := bx - ax) (q := cy - ay) 20 (by omega) (by omega) (by omega) (by omega)
  obtain ⟨q1, q2⟩ := prod_bd (p := by' - ay) (q := cx - ax) 20 (by omega) (by omega) (by omega) (by omega)
  go_enter Tryz.func201, Tryz.ntmps201
  go_wp2_with fail
  go_ret
  exact ⟨rfl, ((((Below.refl _ _).alloc (Nat.le_refl _) _).alloc (by simp) _).alloc (by simp; omega) _)⟩

theorem below3 (w : World) (o1 o2 o3 : Obj) : Below w.heap.size w (((w.alloc o1).alloc o2).alloc o3) :=
  (((Below.refl _ _).alloc (Nat.le_refl _) _).alloc (by simp) _).alloc (by simp; omega) _

theorem below2 (w : World) (o1 o2 : Obj) : Below w.heap.size w ((w.alloc o1).alloc o2) :=
  ((Below.refl _ _).alloc (Nat.le_refl _) _).alloc (by simp) _

theorem specHalf (a b : Nd) (w : World) :
    Calls Tryz.prog 202 #[a.val, b.val] w (IntIs (halfI a b) w) := by
  obtain ⟨ax, ay⟩ := a
  obtain ⟨bx, by'⟩ := b
  have hr : halfI ⟨ax, ay⟩ ⟨bx, by'⟩ = if ay < by' ∨ (by' = ay ∧ ax < bx) then 0 else 1 := rfl
  generalize halfI ⟨ax, ay⟩ ⟨bx, by'⟩ = r at *
  have HR := Lib.hid hr; clear hr
  unfold Nd.val
  by_cases h1 : ay < by'
  · go_enter Tryz.func202, Tryz.ntmps202
    go_wp2_with fail
    go_ret
    exact ⟨ret_int (by rw [HR.out, if_pos (.inl h1)]), below2 w _ _⟩
  · by_cases h2 : by' < ay
    · have h3 : (by' == ay) = false := by rw [beq_eq_false_iff_ne]; omega
      go_enter Tryz.func202, Tryz.ntmps202
      go_wp2_with fail
      go_ret
      exact ⟨ret_int (by rw [HR.out, if_neg (by omega)]), below2 w _ _⟩
    · obtain rfl : by' = ay := by omega
      by_cases h4 : ax < bx
      · go_enter Tryz.func202, Tryz.ntmps202
        go_wp2_with fail
        go_ret
        exact ⟨ret_int (by rw [HR.out, if_pos (by simp; exact h4)]), below2 w _ _⟩
      · go_enter Tryz.func202, Tryz.ntmps202
        go_wp2_with fail
        go_ret
        exact ⟨ret_int (by rw [HR.out, if_neg (by omega)]), below2 w _ _⟩

theorem specLen (a b : Nd) (w : World) :
    Calls Tryz.prog 148 #[a.val, b.val] w (IntIs (lenSq a b) w) := by
  have hr : lenSq a b = if okB a && okB b then (b.x - a.x) * (b.x - a.x) + (b.y - a.y) * (b.y - a.y) else -1 := rfl
  have HR := Lib.hid hr; clear hr
  have HA := Lib.hid (specNodeOk a)
  have HB := Lib.hid (specNodeOk b)
  have HOA := Lib.hid (okB_iff a)
  have HOB := Lib.hid (okB_iff b)
  generalize lenSq a b = r at *
  obtain ⟨ax, ay⟩ := a
  obtain ⟨bx, by'⟩ := b
  generalize hka : okB ⟨ax, ay⟩ = ka at *
  generalize hkb : okB ⟨bx, by'⟩ = kb at *
  clear hka hkb
  unfold Nd.val
  cases ka
  · go_enter Tryz.func148, Tryz.ntmps148
    go_wp2_with fail
    refine (HA.out _).mono ?_
    rintro e w1 ⟨rfl, hb1⟩
    obtain ⟨hc1, hf1⟩ := bcell hb1
    have hz10 : w.heap.size < w1.heap.size := by have := hb1.size; simp at this; omega
    have hz11 : w.heap.size + 1 < w1.heap.size := by have := hb1.size; simp at this; omega
    have HB1 := Lib.hid ((below2 w _ _).trans (hb1.mono (by simp; try omega)))
    clear hb1
    go_wp2_with fail
    go_ret
    exact ⟨by rw [HR.out]; rfl, HB1.out⟩
  · cases kb
    · go_enter Tryz.func148, Tryz.ntmps148
      go_wp2_with fail
      refine (HA.out _).mono ?_
      rintro e w1 ⟨rfl, hb1⟩
      obtain ⟨hc1, hf1⟩ := bcell hb1
      have hz10 : w.heap.size < w1.heap.size := by have := hb1.size; simp at this; omega
      have hz11 : w.heap.size + 1 < w1.heap.size := by have := hb1.size; simp at this; omega
      have HB1 := Lib.hid ((below2 w _ _).trans (hb1.mono (by simp; try omega)))
      clear hb1
      go_wp2_with fail
      refine (HB.out _).mono ?_
      rintro e w2 ⟨rfl, hb2⟩
      obtain ⟨hc2, hf2⟩ := bcell hb2
      have hz20 : w.heap.size < w2.heap.size := by have := hb2.size; omega
      have hz21 : w.heap.size + 1 < w2.heap.size := by have := hb2.size; omega
      have HB2 := Lib.hid (HB1.out.trans (hb2.mono HB1.out.size))
      clear hb2
      go_wp2_with fail
      go_ret
      exact ⟨by rw [HR.out]; rfl, HB2.out⟩
    · obtain ⟨⟨a1, a2⟩, a3, a4⟩ := HOA.out.1 rfl
      obtain ⟨⟨b1, b2⟩, b3, b4⟩ := HOB.out.1 rfl
      simp only at a1 a2 a3 a4 b1 b2 b3 b4
      obtain ⟨p1, p2⟩ := prod_bd (p := bx - ax) (q := bx - ax) 20 (by omega) (by omega) (by omega) (by omega)
      obtain ⟨q1, q2⟩ := prod_bd (p := by' - ay) (q := by' - ay) 20 (by omega) (by omega) (by omega) (by omega)
      go_enter Tryz.func148, Tryz.ntmps148
      go_wp2_with fail
      refine (HA.out _).mono ?_
      rintro e w1 ⟨rfl, hb1⟩
      obtain ⟨hc1, hf1⟩ := bcell hb1
      have hz10 : w.heap.size < w1.heap.size := by have := hb1.size; simp at this; omega
      have hz11 : w.heap.size + 1 < w1.heap.size := by have := hb1.size; simp at this; omega
      have HB1 := Lib.hid ((below2 w _ _).trans (hb1.mono (by simp; try omega)))
      clear hb1
      go_wp2_with fail
      refine (HB.out _).mono ?_
      rintro e w2 ⟨rfl, hb2⟩
      obtain ⟨hc2, hf2⟩ := bcell hb2
      have hz20 : w.heap.size < w2.heap.size := by have := hb2.size; omega
      have hz21 : w.heap.size + 1 < w2.heap.size := by have := hb2.size; omega
      have HB2 := Lib.hid (HB1.out.trans (hb2.mono HB1.out.size))
      clear hb2
      go_wp2_with fail
      go_ret
      exact ⟨by rw [HR.out]; rfl, HB2.out⟩

end Go.Proofs.YtepacoacalhdcaaGreat

namespace Go.Proofs.YtepacoacalhdcaaGreat
open Go.RowKit
set_option linter.unusedVariables false
set_option linter.unusedSimpArgs false

theorem eqNd (a b : Nd) (w : World) : (Op.equalIn 10000 115 (.agg #[.int .i64 a.x, .int .i64 a.y]) (.agg #[.int .i64 b.x, .int .i64 b.y])).run Tryz.prog w = .ok (decide (a = b)) w := by
  obtain ⟨ax, ay⟩ := a
  obtain ⟨bx, by'⟩ := b
  simp only [Nd.mk.injEq]
  by_cases h1 : ax = bx
  · subst h1
    by_cases h2 : ay = by'
    · subst h2; go_simp
    · have h3 : (ay == by') = false := by rw [beq_eq_false_iff_ne]; exact h2
      go_simp
  · have h3 : (ax == bx) = false := by rw [beq_eq_false_iff_ne]; exact h1
    go_simp

theorem min_if (a b : Int) : (if b < a then b else a) = min a b := by split <;> omega

theorem max_if (a b : Int) : (if a < b then b else a) = max a b := by split <;> omega

/-- Three, two, one boxed nodes. -/
def B3 (w : World) (a b c : Nd) : List (Nat × Nat × Value) := [(w.heap.size, 0, .int .i64 a.x), (w.heap.size, 1, .int .i64 a.y), (w.heap.size + 1, 0, .int .i64 b.x), (w.heap.size + 1, 1, .int .i64 b.y), (w.heap.size + 1 + 1, 0, .int .i64 c.x), (w.heap.size + 1 + 1, 1, .int .i64 c.y)]

def B2 (w : World) (a b : Nd) : List (Nat × Nat × Value) := [(w.heap.size, 0, .int .i64 a.x), (w.heap.size, 1, .int .i64 a.y), (w.heap.size + 1, 0, .int .i64 b.x), (w.heap.size + 1, 1, .int .i64 b.y)]

def B1 (w : World) (a : Nd) : List (Nat × Nat × Value) := [(w.heap.size, 0, .int .i64 a.x), (w.heap.size, 1, .int .i64 a.y)]

theorem held3 (w : World) (a b c : Nd) (T : TypeId) : Held w (((w.alloc (.cells #[.int .i64 a.x, .int .i64 a.y] T)).alloc (.cells #[.int .i64 b.x, .int .i64 b.y] T)).alloc (.cells #[.int .i64 c.x, .int .i64 c.y] T)) (B3 w a b c) := by
  refine ⟨⟨?_, ?_, ?_, ?_, ?_, ?_, trivial⟩, ⟨?_, ?_, ?_, ?_, ?_, ?_, trivial⟩, below3 w _ _ _⟩ <;> (try simp) <;> go_simp

theorem held2 (w : World) (a b : Nd) (T U : TypeId) : Held w ((w.alloc (.cells #[.int .i64 a.x, .int .i64 a.y] T)).alloc (.cells #[.int .i64 b.x, .int .i64 b.y] U)) (B2 w a b) := by
  refine ⟨⟨?_, ?_, ?_, ?_, trivial⟩, ⟨?_, ?_, ?_, ?_, trivial⟩, below2 w _ _⟩ <;> (try simp) <;> go_simp

theorem held1 (w : World) (a : Nd) (T : TypeId) : Held w (w.alloc (.cells #[.int .i64 a.x, .int .i64 a.y] T)) (B1 w a) := by
  refine ⟨⟨?_, ?_, trivial⟩, ⟨?_, ?_, trivial⟩, (Below.refl _ _).alloc (Nat.le_refl _) _⟩ <;> (try simp) <;> go_simp

theorem specBetween (a b c : Nd) (w : World) :
    Calls Tryz.prog 199 #[a.val, b.val, c.val] w (BoolIs (betweenB a b c) w) := by
  have hr : betweenB a b c = (okB a && okB b && okB c && decide (a ≠ b) && decide (b ≠ c) && decide (a ≠ c) && decide (turnI a b c = 0) && (inB c.x (min a.x b.x) (max a.x b.x) && inB c.y (min a.y b.y) (max a.y b.y))) := rfl
  have HR := Lib.hid hr; clear hr
  have HA := Lib.hid (specNodeOk a)
  have HB := Lib.hid (specNodeOk b)
  have HC := Lib.hid (specNodeOk c)
  have H0 := Lib.hid (held3 w a b c 115)
  have HT := Lib.hid (fun w ha hb hc => specTurn a b c w ha hb hc)
  have HX := Lib.hid (specIn c.x (min a.x b.x) (max a.x b.x))
  have HY := Lib.hid (specIn c.y (min a.y b.y) (max a.y b.y))
  have q1 := eqNd a b
  have q2 := eqNd b c
  have q3 := eqNd a c
  have e1 := min_if a.x b.x
  have e2 := max_if a.x b.x
  have e3 := min_if a.y b.y
  have e4 := max_if a.y b.y
  have g1 : decide (a ≠ b) = !decide (a = b) := by simp
  have g2 : decide (b ≠ c) = !decide (b = c) := by simp
  have g3 : decide (a ≠ c) = !decide (a = c) := by simp
  rw [g1, g2, g3] at HR
  generalize betweenB a b c = r at *
  generalize decide (a = b) = d1 at *
  generalize decide (b = c) = d2 at *
  generalize decide (a = c) = d3 at *
  generalize turnI a b c = t at *
  generalize okB a = ka at *
  generalize okB b = kb at *
  generalize okB c = kc at *
  generalize inB c.x (min a.x b.x) (max a.x b.x) = bx at *
  generalize inB c.y (min a.y b.y) (max a.y b.y) = by' at *
  clear g1 g2 g3
  obtain ⟨ax, ay⟩ := a
  obtain ⟨cx, cy⟩ := b
  obtain ⟨dx, dy⟩ := c
  simp only at H0 q1 q2 q3 HX HY e1 e2 e3 e4
  unfold Nd.val at HA HB HC HT ⊢
  simp only at HA HB HC HT
  generalize min ax cx = m1 at *
  generalize max ax cx = m2 at *
  generalize min ay cy = m3 at *
  generalize max ay cy = m4 at *
  cases ka
  · go_enter Tryz.func199, Tryz.ntmps199
    go_wp2_with fail
    refine (HA.out _).mono ?_
    rintro e wH1 ⟨rfl, hb⟩
    have H1 := Lib.hid ((H0.out).step hb); clear hb
    try clear x0 x1 x2 x3 x4 x5
    obtain ⟨x0, x1, x2, x3, x4, x5, _⟩ := H1.out.1
    go_wp2_with fail
    go_ret
    exact ⟨ret_bool (by rw [HR.out]; simp), H1.out.below⟩
  cases kb
  · go_enter Tryz.func199, Tryz.ntmps199
    go_wp2_with fail
    refine (HA.out _).mono ?_
    rintro e wH1 ⟨rfl, hb⟩
    have H1 := Lib.hid ((H0.out).step hb); clear hb
    try clear x0 x1 x2 x3 x4 x5
    obtain ⟨x0, x1, x2, x3, x4, x5, _⟩ := H1.out.1
    go_wp2_with fail
    refine (HB.out _).mono ?_
    rintro e wH2 ⟨rfl, hb⟩
    have H2 := Lib.hid ((H1.out).step hb); clear hb
    try clear x0 x1 x2 x3 x4 x5
    obtain ⟨x0, x1, x2, x3, x4, x5, _⟩ := H2.out.1
    go_wp2_with fail
    go_ret
    exact ⟨ret_bool (by rw [HR.out]; simp), H2.out.below⟩
  cases kc
  · go_enter Tryz.func199, Tryz.ntmps199
    go_wp2_with fail
    refine (HA.out _).mono ?_
    rintro e wH1 ⟨rfl, hb⟩
    have H1 := Lib.hid ((H0.out).step hb); clear hb
    try clear x0 x1 x2 x3 x4 x5
    obtain ⟨x0, x1, x2, x3, x4, x5, _⟩ := H1.out.1
    go_wp2_with fail
    refine (HB.out _).mono ?_
    rintro e wH2 ⟨rfl, hb⟩
    have H2 := Lib.hid ((H1.out).step hb); clear hb
    try clear x0 x1 x2 x3 x4 x5
    obtain ⟨x0, x1, x2, x3, x4, x5, _⟩ := H2.out.1
    go_wp2_with fail
    refine (HC.out _).mono ?_
    rintro e wH3 ⟨rfl, hb⟩
    have H3 := Lib.hid ((H2.out).step hb); clear hb
    try clear x0 x1 x2 x3 x4 x5
    obtain ⟨x0, x1, x2, x3, x4, x5, _⟩ := H3.out.1
    go_wp2_with fail
    go_ret
    exact ⟨ret_bool (by rw [HR.out]; simp), H3.out.below⟩
  cases d1
  case true =>
    go_enter Tryz.func199, Tryz.ntmps199
    go_wp2_with fail
    refine (HA.out _).mono ?_
    rintro e wH1 ⟨rfl, hb⟩
    have H1 := Lib.hid ((H0.out).step hb); clear hb
    try clear x0 x1 x2 x3 x4 x5
    obtain ⟨x0, x1, x2, x3, x4, x5, _⟩ := H1.out.1
    go_wp2_with fail
    refine (HB.out _).mono ?_
    rintro e wH2 ⟨rfl, hb⟩
    have H2 := Lib.hid ((H1.out).step hb); clear hb
    try clear x0 x1 x2 x3 x4 x5
    obtain ⟨x0, x1, x2, x3, x4, x5, _⟩ := H2.out.1
    go_wp2_with fail
    refine (HC.out _).mono ?_
    rintro e wH3 ⟨rfl, hb⟩
    have H3 := Lib.hid ((H2.out).step hb); clear hb
    try clear x0 x1 x2 x3 x4 x5
    obtain ⟨x0, x1, x2, x3, x4, x5, _⟩ := H3.out.1
    go_wp2_with fail
    go_ret
    exact ⟨ret_bool (by rw [HR.out]; simp), H3.out.below⟩
  cases d2
  case true =>
    go_enter Tryz.func199, Tryz.ntmps199
    go_wp2_with fail
    refine (HA.out _).mono ?_
    rintro e wH1 ⟨rfl, hb⟩
    have H1 := Lib.hid ((H0.out).step hb); clear hb
    try clear x0 x1 x2 x3 x4 x5
    obtain ⟨x0, x1, x2, x3, x4, x5, _⟩ := H1.out.1
    go_wp2_with fail
    refine (HB.out _).mono ?_
    rintro e wH2 ⟨rfl, hb⟩
    have H2 := Lib.hid ((H1.out).step hb); clear hb
    try clear x0 x1 x2 x3 x4 x5
    obtain ⟨x0, x1, x2, x3, x4, x5, _⟩ := H2.out.1
    go_wp2_with fail
    refine (HC.out _).mono ?_
    rintro e wH3 ⟨rfl, hb⟩
    have H3 := Lib.hid ((H2.out).step hb); clear hb
    try clear x0 x1 x2 x3 x4 x5
    obtain ⟨x0, x1, x2, x3, x4, x5, _⟩ := H3.out.1
    go_wp2_with fail
    go_ret
    exact ⟨ret_bool (by rw [HR.out]; simp), H3.out.below⟩
  cases d3
  case true =>
    go_enter Tryz.func199, Tryz.ntmps199
    go_wp2_with fail
    refine (HA.out _).mono ?_
    rintro e wH1 ⟨rfl, hb⟩
    have H1 := Lib.hid ((H0.out).step hb); clear hb
    try clear x0 x1 x2 x3 x4 x5
    obtain ⟨x0, x1, x2, x3, x4, x5, _⟩ := H1.out.1
    go_wp2_with fail
    refine (HB.out _).mono ?_
    rintro e wH2 ⟨rfl, hb⟩
    have H2 := Lib.hid ((H1.out).step hb); clear hb
    try clear x0 x1 x2 x3 x4 x5
    obtain ⟨x0, x1, x2, x3, x4, x5, _⟩ := H2.out.1
    go_wp2_with fail
    refine (HC.out _).mono ?_
    rintro e wH3 ⟨rfl, hb⟩
    have H3 := Lib.hid ((H2.out).step hb); clear hb
    try clear x0 x1 x2 x3 x4 x5
    obtain ⟨x0, x1, x2, x3, x4, x5, _⟩ := H3.out.1
    go_wp2_with fail
    go_ret
    exact ⟨ret_bool (by rw [HR.out]; simp), H3.out.below⟩
  by_cases ht0 : t = 0
  · subst ht0
    have HTT := Lib.hid (fun w => HT.out w rfl rfl rfl)
    cases bx
    · go_enter Tryz.func199, Tryz.ntmps199
      go_wp2_with fail
      refine (HA.out _).mono ?_
      rintro e wH1 ⟨rfl, hb⟩
      have H1 := Lib.hid ((H0.out).step hb); clear hb
      try clear x0 x1 x2 x3 x4 x5
      obtain ⟨x0, x1, x2, x3, x4, x5, _⟩ := H1.out.1
      go_wp2_with fail
      refine (HB.out _).mono ?_
      rintro e wH2 ⟨rfl, hb⟩
      have H2 := Lib.hid ((H1.out).step hb); clear hb
      try clear x0 x1 x2 x3 x4 x5
      obtain ⟨x0, x1, x2, x3, x4, x5, _⟩ := H2.out.1
      go_wp2_with fail
      refine (HC.out _).mono ?_
      rintro e wH3 ⟨rfl, hb⟩
      have H3 := Lib.hid ((H2.out).step hb); clear hb
      try clear x0 x1 x2 x3 x4 x5
      obtain ⟨x0, x1, x2, x3, x4, x5, _⟩ := H3.out.1
      go_wp2_with fail
      refine (HTT.out _).mono ?_
      rintro e wH4 ⟨rfl, hb⟩
      have H4 := Lib.hid ((H3.out).step hb); clear hb
      try clear x0 x1 x2 x3 x4 x5
      obtain ⟨x0, x1, x2, x3, x4, x5, _⟩ := H4.out.1
      go_wp2_with fail
      refine (HX.out _).mono ?_
      rintro e w' ⟨rfl, rfl⟩
      go_wp2_with fail
      go_ret
      exact ⟨ret_bool (by rw [HR.out]; simp), H4.out.below⟩
    · go_enter Tryz.func199, Tryz.ntmps199
      go_wp2_with fail
      refine (HA.out _).mono ?_
      rintro e wH1 ⟨rfl, hb⟩
      have H1 := Lib.hid ((H0.out).step hb); clear hb
      try clear x0 x1 x2 x3 x4 x5
      obtain ⟨x0, x1, x2, x3, x4, x5, _⟩ := H1.out.1
      go_wp2_with fail
      refine (HB.out _).mono ?_
      rintro e wH2 ⟨rfl, hb⟩
      have H2 := Lib.hid ((H1.out).step hb); clear hb
      try clear x0 x1 x2 x3 x4 x5
      obtain ⟨x0, x1, x2, x3, x4, x5, _⟩ := H2.out.1
      go_wp2_with fail
      refine (HC.out _).mono ?_
      rintro e wH3 ⟨rfl, hb⟩
      have H3 := Lib.hid ((H2.out).step hb); clear hb
      try clear x0 x1 x2 x3 x4 x5
      obtain ⟨x0, x1, x2, x3, x4, x5, _⟩ := H3.out.1
      go_wp2_with fail
      refine (HTT.out _).mono ?_
      rintro e wH4 ⟨rfl, hb⟩
      have H4 := Lib.hid ((H3.out).step hb); clear hb
      try clear x0 x1 x2 x3 x4 x5
      obtain ⟨x0, x1, x2, x3, x4, x5, _⟩ := H4.out.1
      go_wp2_with fail
      refine (HX.out _).mono ?_
      rintro e w' ⟨rfl, rfl⟩
      go_wp2_with fail
      refine (HY.out _).mono ?_
      rintro e w' ⟨rfl, rfl⟩
      go_wp2_with fail
      go_ret
      exact ⟨ret_bool (by rw [HR.out]; simp), H4.out.below⟩
  · have h5 : (t == 0) = false := by rw [beq_eq_false_iff_ne]; exact ht0
    have h6 : (t != 0) = true := by rw [bne_iff_ne]; exact ht0
    have HTT := Lib.hid (fun w => HT.out w rfl rfl rfl)
    have HT0 := Lib.hid ht0; clear ht0
    go_enter Tryz.func199, Tryz.ntmps199
    go_wp2_with fail
    refine (HA.out _).mono ?_
    rintro e wH1 ⟨rfl, hb⟩
    have H1 := Lib.hid ((H0.out).step hb); clear hb
    try clear x0 x1 x2 x3 x4 x5
    obtain ⟨x0, x1, x2, x3, x4, x5, _⟩ := H1.out.1
    go_wp2_with fail
    refine (HB.out _).mono ?_
    rintro e wH2 ⟨rfl, hb⟩
    have H2 := Lib.hid ((H1.out).step hb); clear hb
    try clear x0 x1 x2 x3 x4 x5
    obtain ⟨x0, x1, x2, x3, x4, x5, _⟩ := H2.out.1
    go_wp2_with fail
    refine (HC.out _).mono ?_
    rintro e wH3 ⟨rfl, hb⟩
    have H3 := Lib.hid ((H2.out).step hb); clear hb
    try clear x0 x1 x2 x3 x4 x5
    obtain ⟨x0, x1, x2, x3, x4, x5, _⟩ := H3.out.1
    go_wp2_with fail
    refine (HTT.out _).mono ?_
    rintro e wH4 ⟨rfl, hb⟩
    have H4 := Lib.hid ((H3.out).step hb); clear hb
    try clear x0 x1 x2 x3 x4 x5
    obtain ⟨x0, x1, x2, x3, x4, x5, _⟩ := H4.out.1
    go_wp2_with fail
    go_ret
    exact ⟨ret_bool (by rw [HR.out]; simp [HT0.out]), H4.out.below⟩
end Go.Proofs.YtepacoacalhdcaaGreat

namespace Go.Proofs.YtepacoacalhdcaaGreat
open Go.RowKit
set_option linter.unusedVariables false
set_option linter.unusedSimpArgs false

section

variable {P : Program} {ops : Array Oper} {Q : Exit → Act → World → Prop} {md : Region.Mode} {S : World → Prop}

/-- What an operation comes to: the value v, and a world that meets S. -/
def DetRes (P : Program) (S : World → Prop) (v : Value) : Result Next → Prop
  | .ok (.value u) w' => u = v ∧ S w'
  | .ok .skip w' => v = undef ∧ S w'
  | .ok (.enter f args) w' => Calls P f args w' fun e w'' => e = .returned v ∧ S w''
  | _ => False

theorem detRes_value {v : Value} {r : Result Next} {w' : World} (h : r = .ok (.value v) w') (hS : S w') : DetRes P S v r := by subst h; exact ⟨rfl, hS⟩

theorem detRes_call {v : Value} {r : Result Next} {w' : World} {f : FuncId} {args : Array Value} (h : r = .ok (.enter f args) w') (hc : Calls P f args w' fun e w'' => e = .returned v ∧ S w'') : DetRes P S v r := by subst h; exact hc

def Det (P : Program) (ops : Array Oper) (S : World → Prop) (o : Oper) (v : Value) (a : Act) : Prop :=
  (Region.wanted o (yielded ops a.tmps) = true ∧ ∀ w, S w → DetRes P S v ((execOp a.eval o).run P w)) ∨ (Region.wanted o (yielded ops a.tmps) = false ∧ v = undef)

theorem Det.of_same {o : Oper} {v : Value} {a a' : Act} (hy : Det P ops S o v a) (he : execOp a'.eval o = execOp a.eval o)
    (hw : Region.wanted o (yielded ops a'.tmps) = Region.wanted o (yielded ops a.tmps)) : Det P ops S o v a' := by
  unfold Det at *
  rw [he, hw]
  exact hy

theorem Det.wpOp {i : Nat} {o : Oper} {v : Value} {a : Act} (hi : ops[i]? = some o) (hy : Det P ops S o v a)
    {K : Act → World → Prop} {w : World} (hS : S w) (h : ∀ w', S w' → K (a.put o.dst v) w') : wpOp P ops Q i K a w := by
  unfold Go.wpOp
  simp only [hi]
  rcases hy with ⟨hw, hv⟩ | ⟨hw, rfl⟩
  · simp only [hw, if_true]
    refine .inl ?_
    unfold Oper.wp
    have hd := hv w hS
    generalize (execOp a.eval o).run P w = r at *
    cases r with
    | ok n w' =>
      cases n <;> simp only [DetRes] at hd <;> simp only [Oper.upon]
      case value u => obtain ⟨rfl, h1⟩ := hd; exact h w' h1
      case skip => obtain ⟨rfl, h1⟩ := hd; exact h w' h1
      case enter f args => exact hd.mono fun e w'' he => by obtain ⟨rfl, h1⟩ := he; exact h w'' h1
    | halt x w' => simp [DetRes] at hd
  · simp only [hw, Bool.false_eq_true, if_false]; exact h w hS

/-- Whatever order is picked from here on, in every world that meets S. -/
def wpAnyD (P : Program) (md : Region.Mode) (ops : Array Oper) (Q : Exit → Act → World → Prop) (S : World → Prop) : Nat → Array Bool → Act → Prop
  | 0, listed, a => Region.ready md ops listed = [] ∧ ∀ w, S w → Q .normal a w
  | fuel + 1, listed, a => (Region.ready md ops listed = [] → ∀ w, S w → Q .normal a w) ∧
    ∀ i ∈ Region.ready md ops listed, ∃ o v, ops[i]? = some o ∧ Det P ops S o v a ∧ wpAnyD P md ops Q S fuel (listed.setIfInBounds i true) (a.put o.dst v)

theorem wpAny_of_det : ∀ (fuel : Nat) (listed : Array Bool) (a : Act) (w : World), wpAnyD P md ops Q S fuel listed a → S w → wpAny P md ops Q fuel listed a w
  | 0, _, _, _, h, hS => ⟨h.1, h.2 _ hS⟩
  | fuel + 1, _, _, _, h, hS => ⟨fun h0 => h.1 h0 _ hS, fun i hi => by
      obtain ⟨o, v, ho, hd, hn⟩ := h.2 i hi
      exact hd.wpOp ho hS fun w' hS' => wpAny_of_det fuel _ _ w' hn hS'⟩

theorem wpAnyD_first {i : Nat} {oi : Oper} {v : Value} (hi : ops[i]? = some oi) (hsel : ∀ (j : Nat) (o : Oper) cs b, ops[j]? = some o → o.op ≠ .select cs b) :
    ∀ (fuel : Nat) (listed : Array Bool) (a : Act),
      (∀ j oj, ops[j]? = some oj → j ≠ i → listed.getD j true = false → (∀ e ∈ oj.after, Region.binds md e = true → e.on ≠ i) → oi.apart ops oj = true) →
      i ∈ Region.ready md ops listed → Det P ops S oi v a →
      wpAnyD P md ops Q S fuel (listed.setIfInBounds i true) (a.put oi.dst v) → wpAnyD P md ops Q S (fuel + 1) listed a := by
  intro fuel
  induction fuel with
  | zero =>
    intro listed a _ hr hy H
    refine ⟨fun h => (by rw [h] at hr; cases hr), fun j hj => ?_⟩
    by_cases hji : j = i
    · subst hji; exact ⟨oi, v, hi, hy, H⟩
    · have := ready_mono hj hji
      rw [H.1] at this
      cases this
  | succ fuel ih =>
    intro listed a hfree hr hy H
    refine ⟨fun h => (by rw [h] at hr; cases hr), fun j hj => ?_⟩
    by_cases hji : j = i
    · subst hji; exact ⟨oi, v, hi, hy, H⟩
    · obtain ⟨oj, u, hoj, hdj, hnj⟩ := H.2 j (ready_mono hj hji)
      obtain ⟨hjun, oj', hoj', hall⟩ := mem_ready.1 hj
      obtain rfl : oj' = oj := by rw [hoj] at hoj'; exact (Option.some.inj hoj').symm
      have hnot : ∀ e ∈ oj'.after, Region.binds md e = true → e.on ≠ i := fun e he hb heq => by
        have h1 := hall e he hb
        have h0 := (mem_ready.1 hr).1
        rw [heq] at h1
        rcases Nat.lt_or_ge i listed.size with h' | h'
        · simp [h'] at h0 h1; rw [h0] at h1; cases h1
        · simp [Array.getElem?_eq_none h'] at h1
      obtain ⟨h1, h2, h3⟩ := Oper.apart_spec (hfree j oj' hoj hji hjun hnot)
      have hdj' : Det P ops S oj' u a := hdj.of_same (execOp_put oj' (fun cs b => hsel j oj' cs b hoj) a oi.dst v h1).symm (wanted_put oj' a oi.dst v h1).symm
      have hy' : Det P ops S oi v (a.put oj'.dst u) := hy.of_same (execOp_put oi (fun cs b => hsel i oi cs b hi) a oj'.dst u h3) (wanted_put oi a oj'.dst u h3)
      refine ⟨oj', u, hoj, hdj', ih (listed.setIfInBounds j true) (a.put oj'.dst u) (fun k ok hk hki hun hno => ?_) (ready_mono hr (Ne.symm hji)) hy' ?_⟩
      · refine hfree k ok hk hki ?_ hno
        by_cases hjk : j = k
        · subst hjk; exact hjun
        · rw [getD_set_ne true hjk] at hun; exact hun
      · rw [Array.setIfInBounds_comm _ _ hji, ← Act.put_comm a v u h2]
        exact hnj

/-- Take number i first. -/
theorem takeD {i : Nat} {oi : Oper} {v : Value} {fuel : Nat} {listed : Array Bool} {a : Act} (hi : ops[i]? = some oi)
    (hs : Region.noSelect ops = true) (hf : Region.free md ops listed i = true) (hr : (Region.ready md ops listed).contains i = true) (hy : Det P ops S oi v a)
    (h : wpAnyD P md ops Q S fuel (listed.setIfInBounds i true) (a.put oi.dst v)) : wpAnyD P md ops Q S (fuel + 1) listed a :=
  wpAnyD_first hi (Region.noSelect_spec hs) fuel listed a (Region.free_spec hi hf) (by simpa using hr) hy h

/-- The same, the operation found in the list. -/
theorem takeL {l rest : List Oper} {i : Nat} {oi : Oper} {v : Value} {fuel : Nat} {listed : Array Bool} {a : Act} (hi : l.drop i = oi :: rest)
    (hs : Region.noSelect l.toArray = true) (hf : Region.free md l.toArray listed i = true) (hr : (Region.ready md l.toArray listed).contains i = true) (hy : Det P l.toArray S oi v a)
    (h : wpAnyD P md l.toArray Q S fuel (listed.setIfInBounds i true) (a.put oi.dst v)) : wpAnyD P md l.toArray Q S (fuel + 1) listed a := by
  refine takeD (i := i) (oi := oi) (v := v) ?_ hs hf hr hy h
  have h1 : (l.drop i)[0]? = some oi := by rw [hi]; rfl
  rw [List.getElem?_drop] at h1
  simpa using h1

/-- The same, in the order of the text: the number follows from how many are left. -/
theorem takeT {l rest : List Oper} {oi : Oper} {v : Value} {fuel : Nat} {listed : Array Bool} {a : Act} (hi : l.drop (l.length - (fuel + 1)) = oi :: rest)
    (hs : Region.noSelect l.toArray = true) (hf : Region.free md l.toArray listed (l.length - (fuel + 1)) = true) (hr : (Region.ready md l.toArray listed).contains (l.length - (fuel + 1)) = true) (hy : Det P l.toArray S oi v a)
    (h : wpAnyD P md l.toArray Q S fuel (listed.setIfInBounds (l.length - (fuel + 1)) true) (a.put oi.dst v)) : wpAnyD P md l.toArray Q S (fuel + 1) listed a :=
  takeL hi hs hf hr hy h

theorem doneD {listed : Array Bool} {a : Act} (hr : Region.ready md ops listed = []) (h : ∀ w, S w → Q .normal a w) : wpAnyD P md ops Q S 0 listed a := ⟨hr, h⟩

theorem regionD (S : World → Prop) {id : Nat} {a : Act} {w : World} (hm : P.follows .mixedOrders = true) (hS : S w.drew)
    (h : wpAnyD P .any ops Q S ops.size (Array.replicate ops.size false) a) : (Code.region id ops true).wp P Q a w :=
  wp_region_any hm (wpAny_of_det _ _ _ _ h hS)

end
end Go.Proofs.YtepacoacalhdcaaGreat

namespace Go.Proofs.YtepacoacalhdcaaGreat
open Go.RowKit
set_option linter.unusedVariables false
set_option linter.unusedSimpArgs false

def NodeIs (n : Nd) (w : World) (e : Ending) (w' : World) : Prop := e = .returned n.val ∧ Below w.heap.size w w'

theorem toNode_any (n : Nd) (w : World) :
    Calls Tryz.prog 123 #[n.val] w (NodeIs n w) := by
  obtain ⟨x, y⟩ := n
  unfold Nd.val
  go_enter Tryz.func123, Tryz.ntmps123
  go_wp2_with fail
  refine bodyPost_ret (v := .agg #[.int .i64 x, .int .i64 y]) (by simp [results, Tryz.results123, go_sem]) rfl ⟨rfl, below3 w _ _ _⟩

theorem toLead_any (n : Nd) (w : World) :
    Calls Tryz.prog 124 #[n.val] w (NodeIs n w) := by
  obtain ⟨x, y⟩ := n
  unfold Nd.val
  go_enter Tryz.func124, Tryz.ntmps124
  go_wp2_with fail
  refine bodyPost_ret (v := .agg #[.int .i64 x, .int .i64 y]) (by simp [results, Tryz.results124, go_sem]) rfl ⟨rfl, below3 w _ _ _⟩

theorem infoNode : (Tryz.prog.info? 115).map (fun i => (i.zero, i.size, i.bytes)) = some (some (.agg #[.int .i64 0, .int .i64 0]), 2, 16) := by kernel_rfl

theorem infoLead : (Tryz.prog.info? 151).map (fun i => (i.zero, i.size, i.bytes)) = some (some (.agg #[.int .i64 0, .int .i64 0]), 2, 16) := by kernel_rfl

theorem made_half (n : Nat) (xs : List Nd) : Half (madeCells (Value.agg #[.int .i64 0, .int .i64 0]).cells (n * 2)) n xs 0 := by
  refine ⟨size_madeCells _ _, fun j hj => ⟨0, 0, ?_, ?_⟩, fun j hj => by omega⟩
  · simp [madeCells, Value.cells, Array.getElem?_map, Array.getElem?_range, show j * 2 < n * 2 by omega]
  · have : (j * 2 + 1) % 2 = 1 := by omega
    simp [madeCells, Value.cells, Array.getElem?_map, Array.getElem?_range, show j * 2 + 1 < n * 2 by omega, this]

def MineIs (T : TypeId) (xs : List Nd) (w : World) (e : Ending) (w' : World) : Prop := ∃ v, e = .returned v ∧ Mine w' w.heap.size T v xs ∧ Below w.heap.size w w'

theorem toNodeS_any (xs : List Nd) (v : Value) (w : World) (hv : Prs w v xs) (hlen : xs.length ≤ 1048576) :
    Calls Tryz.prog 59 #[v] w (MineIs 115 xs w) := by
  obtain ⟨i0, hi0, hz0, hz1, hz2⟩ := info_parts infoNode
  have hmk := run_make_rowN (P := Tryz.prog) 29 115 i0 _ Tryz.underlying29 hi0 hz0 .i64 .i64 xs.length xs.length (Nat.le_refl _) (by rw [hz2]; omega) (by omega)
  rw [hz1] at hmk
  have HC := Lib.hid hv
  obtain ⟨A, c, rfl⟩ := prs_form2 hv
  clear hv
  have hh := made_half xs.length xs
  generalize madeCells (Value.agg #[.int .i64 0, .int .i64 0]).cells (xs.length * 2) = C0 at *
  have HH := Lib.hid hh; clear hh
  clear hi0 hz0 hz1 hz2
  go_enter Tryz.func59, Tryz.ntmps59
  go_wp2_with fail
  clear hmk
  go_loopw [4] (fun i wr => ∃ k : Nat, k ≤ xs.length ∧ i = .int .i64 k ∧ HalfAt wr w.heap.size 115 xs.length xs k ∧ Below w.heap.size w wr) (fun i _ => xs.length - (intOf i).toNat)
  case atStart => exact ⟨0, Nat.zero_le _, rfl, ⟨C0, heap_alloc_new w _, HH.out⟩, (Below.refl _ _).alloc (Nat.le_refl _) _⟩
  case round =>
    obtain ⟨k, hk, rfl, hha, hb⟩ := hrel
    by_cases hlt : k < xs.length
    · obtain ⟨b, o, c', he, hbl, hcs⟩ := prs_at2 (HC.out.step hb) hlt
      injection he with he1 he2 he3
      subst he1
      obtain ⟨c0, c1⟩ := hcs k hlt
      have HT := Lib.hid (toNode_any (atN xs k))
      have HA := Lib.hid hha; clear hha
      have HB := Lib.hid hb; clear hb
      have hsz := HB.out.size
      clear hcs he2 he3
      have hat : atN xs k = atN xs k := rfl
      have HS := Lib.hid (fun C (h : Half C xs.length xs k) => h.set_ hlt)
      generalize hn : atN xs k = n at *
      obtain ⟨nx, ny⟩ := n
      clear hn
      unfold NodeIs Nd.val at HT
      simp only at HT c0 c1 HS
      go_wp2_with fail
      refine (HT.out _).mono ?_
      rintro e w1 ⟨rfl, hb1⟩
      have hA1 := HA.out.below hb1
      have HB1 := Lib.hid (HB.out.trans (hb1.mono hsz)); clear hb1
      obtain ⟨C, hC, hh⟩ := hA1
      obtain ⟨p, q, hp, hq⟩ := hh.2.1 k hlt
      have HHH := Lib.hid (HS.out C hh)
      have g0 : w1.cell? ⟨w.heap.size, k * 2, none⟩ = some (.int .i64 p) := by rw [cell_of_cells hC]; exact hp
      have g1 : w1.cell? ⟨w.heap.size, k * 2 + 1, none⟩ = some (.int .i64 q) := by rw [cell_of_cells hC]; exact hq
      have f0 : w1.frozen? ⟨w.heap.size, k * 2, none⟩ = false := free_of_cells hC
      have f1 : w1.frozen? ⟨w.heap.size, k * 2 + 1, none⟩ = false := free_of_cells hC
      have HCC := Lib.hid hC
      clear hC hh hp hq
      go_wp2_with fail
      exact ⟨⟨k + 1, by omega, by go_num, ⟨_, heap_setCell_self (heap_setCell_self HCC.out _) _, HHH.out⟩, (HB1.out.setCell (Nat.le_refl _) _).setCell (Nat.le_refl _) _⟩, by simp [intOf]; omega⟩
    · go_wp2_with fail
      go_ret
      obtain rfl : k = xs.length := by omega
      exact ⟨_, rfl, ⟨_, xs.length, xs.length, rfl, Nat.le_refl _, by unfold maxLen; omega, fun _ => ⟨w.heap.size, rfl, Nat.le_refl _, Nat.le_refl _, hha⟩⟩, hb⟩

theorem toLeadS_any (xs : List Nd) (v : Value) (w : World) (hv : Prs w v xs) (hlen : xs.length ≤ 1048576) :
    Calls Tryz.prog 60 #[v] w (MineIs 151 xs w) := by
  obtain ⟨i0, hi0, hz0, hz1, hz2⟩ := info_parts infoLead
  have hmk := run_make_rowN (P := Tryz.prog) 30 151 i0 _ Tryz.underlying30 hi0 hz0 .i64 .i64 xs.length xs.length (Nat.le_refl _) (by rw [hz2]; omega) (by omega)
  rw [hz1] at hmk
  have HC := Lib.hid hv
  obtain ⟨A, c, rfl⟩ := prs_form2 hv
  clear hv
  have hh := made_half xs.length xs
  generalize madeCells (Value.agg #[.int .i64 0, .int .i64 0]).cells (xs.length * 2) = C0 at *
  have HH := Lib.hid hh; clear hh
  clear hi0 hz0 hz1 hz2
  go_enter Tryz.func60, Tryz.ntmps60
  go_wp2_with fail
  clear hmk
  go_loopw [4] (fun i wr => ∃ k : Nat, k ≤ xs.length ∧ i = .int .i64 k ∧ HalfAt wr w.heap.size 151 xs.length xs k ∧ Below w.heap.size w wr) (fun i _ => xs.length - (intOf i).toNat)
  case atStart => exact ⟨0, Nat.zero_le _, rfl, ⟨C0, heap_alloc_new w _, HH.out⟩, (Below.refl _ _).alloc (Nat.le_refl _) _⟩
  case round =>
    obtain ⟨k, hk, rfl, hha, hb⟩ := hrel
    by_cases hlt : k < xs.length
    · obtain ⟨b, o, c', he, hbl, hcs⟩ := prs_at2 (HC.out.step hb) hlt
      injection he with he1 he2 he3
      subst he1
      obtain ⟨c0, c1⟩ := hcs k hlt
      have HT := Lib.hid (toLead_any (atN xs k))
      have HA := Lib.hid hha; clear hha
      have HB := Lib.hid hb; clear hb
      have hsz := HB.out.size
      clear hcs he2 he3
      have hat : atN xs k = atN xs k := rfl
      have HS := Lib.hid (fun C (h : Half C xs.length xs k) => h.set_ hlt)
      generalize hn : atN xs k = n at *
      obtain ⟨nx, ny⟩ := n
      clear hn
      unfold NodeIs Nd.val at HT
      simp only at HT c0 c1 HS
      go_wp2_with fail
      refine (HT.out _).mono ?_
      rintro e w1 ⟨rfl, hb1⟩
      have hA1 := HA.out.below hb1
      have HB1 := Lib.hid (HB.out.trans (hb1.mono hsz)); clear hb1
      obtain ⟨C, hC, hh⟩ := hA1
      obtain ⟨p, q, hp, hq⟩ := hh.2.1 k hlt
      have HHH := Lib.hid (HS.out C hh)
      have g0 : w1.cell? ⟨w.heap.size, k * 2, none⟩ = some (.int .i64 p) := by rw [cell_of_cells hC]; exact hp
      have g1 : w1.cell? ⟨w.heap.size, k * 2 + 1, none⟩ = some (.int .i64 q) := by rw [cell_of_cells hC]; exact hq
      have f0 : w1.frozen? ⟨w.heap.size, k * 2, none⟩ = false := free_of_cells hC
      have f1 : w1.frozen? ⟨w.heap.size, k * 2 + 1, none⟩ = false := free_of_cells hC
      have HCC := Lib.hid hC
      clear hC hh hp hq
      go_wp2_with fail
      exact ⟨⟨k + 1, by omega, by go_num, ⟨_, heap_setCell_self (heap_setCell_self HCC.out _) _, HHH.out⟩, (HB1.out.setCell (Nat.le_refl _) _).setCell (Nat.le_refl _) _⟩, by simp [intOf]; omega⟩
    · go_wp2_with fail
      go_ret
      obtain rfl : k = xs.length := by omega
      exact ⟨_, rfl, ⟨_, xs.length, xs.length, rfl, Nat.le_refl _, by unfold maxLen; omega, fun _ => ⟨w.heap.size, rfl, Nat.le_refl _, Nat.le_refl _, hha⟩⟩, hb⟩

theorem szNodeS_any (n c : Nat) (A : Option Addr) (left : Int) (w : World) (hl : 0 ≤ left) (hl2 : left ≤ 1048576) (hn : n ≤ 9223372036854775807) :
    Calls Tryz.prog 54 #[.slice A n c, .int .i64 left] w fun e w' => e = .returned (.int .i64 (if left < n then -1 else left - n)) ∧ w = w' := by
  generalize hr : (if left < (n : Int) then (-1 : Int) else left - n) = r
  have HR := Lib.hid hr; clear hr
  by_cases h : left < n
  · go_enter Tryz.func54, Tryz.ntmps54
    go_wp2_with fail
    go_ret
    exact ⟨ret_int (by rw [← HR.out, if_pos h]), rfl⟩
  · go_enter Tryz.func54, Tryz.ntmps54
    go_wp2_with fail
    go_ret
    exact ⟨ret_int (by rw [← HR.out, if_neg (by omega)]), rfl⟩

theorem eqNode_yes (n : Nd) (w : World) :
    Calls Tryz.prog 131 #[n.val, n.val] w (BoolIs true w) := by
  obtain ⟨x, y⟩ := n
  unfold Nd.val
  go_enter Tryz.func131, Tryz.ntmps131
  go_wp2_with fail
  go_ret
  exact ⟨rfl, below2 w _ _⟩

set_option maxRecDepth 100000 in
theorem eqNodeS_yes (xs : List Nd) (v1 v2 : Value) (w : World) (h1 : Prs w v1 xs) (h2 : Prs w v2 xs) :
    Calls Tryz.prog 65 #[v1, v2] w (BoolIs true w) := by
  have hlen := h1.len
  have HC := Lib.hid h1
  have HD := Lib.hid h2
  obtain ⟨A, c, rfl⟩ := prs_form2 h1
  obtain ⟨A2, c2, rfl⟩ := prs_form2 h2
  clear h1 h2
  go_enter Tryz.func65, Tryz.ntmps65
  go_wp2_with fail
  go_loopw [5] (fun i wr => ∃ k : Nat, k ≤ xs.length ∧ i = .int .i64 k ∧ Below w.heap.size w wr) (fun i _ => xs.length - (intOf i).toNat)
  case atStart => exact ⟨0, Nat.zero_le _, rfl, Below.refl _ _⟩
  case round =>
    obtain ⟨k, hk, rfl, hb⟩ := hrel
    by_cases hlt : k < xs.length
    · obtain ⟨b, o, c', he, hbl, hcs⟩ := prs_at2 (HC.out.step hb) hlt
      injection he with he1 he2 he3
      subst he1
      obtain ⟨b2, o2, c2', he', hbl2, hcs2⟩ := prs_at2 (HD.out.step hb) hlt
      injection he' with he1' he2' he3'
      subst he1'
      have H0 := Lib.hid (Held.start (w := wr) ((P1_cs hcs hlt).append (P1_cs hcs2 hlt)) ((P1_bs hbl).append (P1_bs hbl2)))
      have HB := Lib.hid hb
      clear hcs hcs2 he2 he3 he2' he3' hb
      have HE := Lib.hid (eqNode_yes (atN xs k))
      unfold P1 at H0
      generalize atN xs k = n at *
      obtain ⟨nx, ny⟩ := n
      unfold Nd.val at HE
      simp only at HE H0
      have hz1 : (0 : Int) ≤ k := by omega
      have hz2 : (k : Int) < (xs.length : Int) := by omega
      go_wp2_with fail
      refine regionD (S := fun W => Held _ W [(b, o + k * 2, .int .i64 (nx)), (b, o + k * 2 + 1, .int .i64 (ny)), (b2, o2 + k * 2, .int .i64 (nx)), (b2, o2 + k * 2 + 1, .int .i64 (ny))]) (by kernel_rfl) H0.out.drew ?_
      iterate 10 (refine takeT (v := ?_) rfl (by kernel_rfl) (by kernel_rfl) (by kernel_rfl) ?_ ?_; rotate_left; (first | (refine Or.inr ⟨by rfl, ?_⟩; with_reducible rfl) | (refine Or.inl ⟨by rfl, fun W hS => detRes_value (w' := W) ?_ hS⟩; obtain ⟨x0, x1, x2, x3, _⟩ := hS.1; go_simp; first | done | with_reducible rfl) | (refine Or.inl ⟨by rfl, fun W hS => ?_⟩; refine detRes_call (w' := W) (f := ?_) (args := ?_) ?_ ?_; rotate_left 2; (go_simp; (refine ⟨?_, ?_⟩ <;> with_reducible rfl)); (first | (with_reducible refine (HE.out _).mono ?_) | fail); (first | (rintro e wn ⟨rfl, hb⟩; refine ⟨?_, hS.step hb⟩; with_reducible rfl) | (rintro e wn ⟨rfl, rfl⟩; refine ⟨?_, hS⟩; with_reducible rfl) | fail)) | fail); (simp only [Act.put, List.setIfInBounds_toArray, List.set_cons_zero, List.set_cons_succ]))
      refine doneD (by kernel_rfl) fun wH1 HS => ?_
      have H1 := Lib.hid HS; clear HS
      try clear x0 x1 x2 x3
      obtain ⟨x0, x1, x2, x3, _⟩ := H1.out.1
      go_wp2_with fail
      exact ⟨⟨k + 1, by omega, by go_num, HB.out.trans (H1.out.below.mono HB.out.size)⟩, by simp [intOf]; omega⟩
    · go_wp2_with fail
      go_ret
      exact ⟨rfl, hb⟩

theorem szLeadS_any (n c : Nat) (A : Option Addr) (left : Int) (w : World) (hl : 0 ≤ left) (hl2 : left ≤ 1048576) (hn : n ≤ 9223372036854775807) :
    Calls Tryz.prog 55 #[.slice A n c, .int .i64 left] w fun e w' => e = .returned (.int .i64 (if left < n then -1 else left - n)) ∧ w = w' := by
  generalize hr : (if left < (n : Int) then (-1 : Int) else left - n) = r
  have HR := Lib.hid hr; clear hr
  by_cases h : left < n
  · go_enter Tryz.func55, Tryz.ntmps55
    go_wp2_with fail
    go_ret
    exact ⟨ret_int (by rw [← HR.out, if_pos h]), rfl⟩
  · go_enter Tryz.func55, Tryz.ntmps55
    go_wp2_with fail
    go_ret
    exact ⟨ret_int (by rw [← HR.out, if_neg (by omega)]), rfl⟩

theorem eqLead_yes (n : Nd) (w : World) :
    Calls Tryz.prog 132 #[n.val, n.val] w (BoolIs true w) := by
  obtain ⟨x, y⟩ := n
  unfold Nd.val
  go_enter Tryz.func132, Tryz.ntmps132
  go_wp2_with fail
  go_ret
  exact ⟨rfl, below2 w _ _⟩

set_option maxRecDepth 100000 in
theorem eqLeadS_yes (xs : List Nd) (v1 v2 : Value) (w : World) (h1 : Prs w v1 xs) (h2 : Prs w v2 xs) :
    Calls Tryz.prog 66 #[v1, v2] w (BoolIs true w) := by
  have hlen := h1.len
  have HC := Lib.hid h1
  have HD := Lib.hid h2
  obtain ⟨A, c, rfl⟩ := prs_form2 h1
  obtain ⟨A2, c2, rfl⟩ := prs_form2 h2
  clear h1 h2
  go_enter Tryz.func66, Tryz.ntmps66
  go_wp2_with fail
  go_loopw [5] (fun i wr => ∃ k : Nat, k ≤ xs.length ∧ i = .int .i64 k ∧ Below w.heap.size w wr) (fun i _ => xs.length - (intOf i).toNat)
  case atStart => exact ⟨0, Nat.zero_le _, rfl, Below.refl _ _⟩
  case round =>
    obtain ⟨k, hk, rfl, hb⟩ := hrel
    by_cases hlt : k < xs.length
    · obtain ⟨b, o, c', he, hbl, hcs⟩ := prs_at2 (HC.out.step hb) hlt
      injection he with he1 he2 he3
      subst he1
      obtain ⟨b2, o2, c2', he', hbl2, hcs2⟩ := prs_at2 (HD.out.step hb) hlt
      injection he' with he1' he2' he3'
      subst he1'
      have H0 := Lib.hid (Held.start (w := wr) ((P1_cs hcs hlt).append (P1_cs hcs2 hlt)) ((P1_bs hbl).append (P1_bs hbl2)))
      have HB := Lib.hid hb
      clear hcs hcs2 he2 he3 he2' he3' hb
      have HE := Lib.hid (eqLead_yes (atN xs k))
      unfold P1 at H0
      generalize atN xs k = n at *
      obtain ⟨nx, ny⟩ := n
      unfold Nd.val at HE
      simp only at HE H0
      have hz1 : (0 : Int) ≤ k := by omega
      have hz2 : (k : Int) < (xs.length : Int) := by omega
      go_wp2_with fail
      refine regionD (S := fun W => Held _ W [(b, o + k * 2, .int .i64 (nx)), (b, o + k * 2 + 1, .int .i64 (ny)), (b2, o2 + k * 2, .int .i64 (nx)), (b2, o2 + k * 2 + 1, .int .i64 (ny))]) (by kernel_rfl) H0.out.drew ?_
      iterate 10 (refine takeT (v := ?_) rfl (by kernel_rfl) (by kernel_rfl) (by kernel_rfl) ?_ ?_; rotate_left; (first | (refine Or.inr ⟨by rfl, ?_⟩; with_reducible rfl) | (refine Or.inl ⟨by rfl, fun W hS => detRes_value (w' := W) ?_ hS⟩; obtain ⟨x0, x1, x2, x3, _⟩ := hS.1; go_simp; first | done | with_reducible rfl) | (refine Or.inl ⟨by rfl, fun W hS => ?_⟩; refine detRes_call (w' := W) (f := ?_) (args := ?_) ?_ ?_; rotate_left 2; (go_simp; (refine ⟨?_, ?_⟩ <;> with_reducible rfl)); (first | (with_reducible refine (HE.out _).mono ?_) | fail); (first | (rintro e wn ⟨rfl, hb⟩; refine ⟨?_, hS.step hb⟩; with_reducible rfl) | (rintro e wn ⟨rfl, rfl⟩; refine ⟨?_, hS⟩; with_reducible rfl) | fail)) | fail); (simp only [Act.put, List.setIfInBounds_toArray, List.set_cons_zero, List.set_cons_succ]))
      refine doneD (by kernel_rfl) fun wH1 HS => ?_
      have H1 := Lib.hid HS; clear HS
      try clear x0 x1 x2 x3
      obtain ⟨x0, x1, x2, x3, _⟩ := H1.out.1
      go_wp2_with fail
      exact ⟨⟨k + 1, by omega, by go_num, HB.out.trans (H1.out.below.mono HB.out.size)⟩, by simp [intOf]; omega⟩
    · go_wp2_with fail
      go_ret
      exact ⟨rfl, hb⟩

end Go.Proofs.YtepacoacalhdcaaGreat

namespace Go.Proofs.YtepacoacalhdcaaGreat
open Go.RowKit
set_option linter.unusedVariables false
set_option linter.unusedSimpArgs false

def Stable (G : World → Prop) : Prop := ∀ w w' : World, G w → Below w.heap.size w w' → G w'

theorem Stable.held (w : World) (fs : List (Nat × Nat × Value)) : Stable fun W => Held w W fs := fun _ _ h hb => h.step hb

theorem Stable.and {G R : World → Prop} (h : Stable G) (k : Stable R) : Stable fun W => G W ∧ R W := fun _ _ hh hb => ⟨h _ _ hh.1 hb, k _ _ hh.2 hb⟩

section

variable {P : Program} {ops : Array Oper} {Q : Exit → Act → World → Prop} {md : Region.Mode}

def DetR (P : Program) (v : Value) (w : World) : Result Next → Prop
  | .ok (.value u) w' => u = v ∧ Below w.heap.size w w'
  | .ok .skip w' => v = undef ∧ Below w.heap.size w w'
  | .ok (.enter f args) w' => Calls P f args w' fun e w'' => e = .returned v ∧ Below w.heap.size w w''
  | _ => False

def FreeR (P : Program) (R : Value → World → Prop) (w : World) : Result Next → Prop
  | .ok (.value u) w' => R u w' ∧ Below w.heap.size w w'
  | .ok (.enter f args) w' => Calls P f args w' fun e w'' => ∃ v, e = .returned v ∧ R v w'' ∧ Below w.heap.size w w''
  | _ => False

theorem detR_value {v : Value} {r : Result Next} {w w' : World} (h : r = .ok (.value v) w') (hb : Below w.heap.size w w') : DetR P v w r := by subst h; exact ⟨rfl, hb⟩

theorem detR_call {v : Value} {r : Result Next} {w w' : World} {f : FuncId} {args : Array Value} (h : r = .ok (.enter f args) w') (hc : Calls P f args w' fun e w'' => e = .returned v ∧ Below w.heap.size w w'') : DetR P v w r := by subst h; exact hc

theorem freeR_call {R : Value → World → Prop} {r : Result Next} {w w' : World} {f : FuncId} {args : Array Value} (h : r = .ok (.enter f args) w') (hc : Calls P f args w' fun e w'' => ∃ v, e = .returned v ∧ R v w'' ∧ Below w.heap.size w w'') : FreeR P R w r := by subst h; exact hc

def DetG (P : Program) (ops : Array Oper) (G : World → Prop) (o : Oper) (v : Value) (a : Act) : Prop :=
  (Region.wanted o (yielded ops a.tmps) = true ∧ ∀ w, G w → DetR P v w ((execOp a.eval o).run P w)) ∨ (Region.wanted o (yielded ops a.tmps) = false ∧ v = undef)

theorem DetG.of_same {G : World → Prop} {o : Oper} {v : Value} {a a' : Act} (hy : DetG P ops G o v a) (he : execOp a'.eval o = execOp a.eval o)
    (hw : Region.wanted o (yielded ops a'.tmps) = Region.wanted o (yielded ops a.tmps)) : DetG P ops G o v a' := by
  unfold DetG at *
  rw [he, hw]
  exact hy

theorem DetG.less {G G' : World → Prop} {o : Oper} {v : Value} {a : Act} (hy : DetG P ops G o v a) (h : ∀ x, G' x → G x) : DetG P ops G' o v a :=
  hy.imp (fun ⟨h1, h2⟩ => ⟨h1, fun w hw => h2 w (h w hw)⟩) id

theorem DetG.wpOp {G : World → Prop} {i : Nat} {o : Oper} {v : Value} {a : Act} (hi : ops[i]? = some o) (hy : DetG P ops G o v a) (hst : Stable G)
    {K : Act → World → Prop} {w : World} (hS : G w) (h : ∀ w', G w' → K (a.put o.dst v) w') : wpOp P ops Q i K a w := by
  unfold Go.wpOp
  simp only [hi]
  rcases hy with ⟨hw, hv⟩ | ⟨hw, rfl⟩
  · simp only [hw, if_true]
    refine .inl ?_
    unfold Oper.wp
    have hd := hv w hS
    generalize (execOp a.eval o).run P w = r at *
    cases r with
    | ok n w' =>
      cases n <;> simp only [DetR] at hd <;> simp only [Oper.upon]
      case value u => obtain ⟨rfl, h1⟩ := hd; exact h w' (hst _ _ hS h1)
      case skip => obtain ⟨rfl, h1⟩ := hd; exact h w' (hst _ _ hS h1)
      case enter f args => exact hd.mono fun e w'' he => by obtain ⟨rfl, h1⟩ := he; exact h w'' (hst _ _ hS h1)
    | halt x w' => simp [DetR] at hd
  · simp only [hw, Bool.false_eq_true, if_false]; exact h w hS

/-- Whatever order is picked from here on, in every world that meets G. -/
def wpAnyW (P : Program) (md : Region.Mode) (ops : Array Oper) (Q : Exit → Act → World → Prop) : Nat → Array Bool → Act → (World → Prop) → Prop
  | 0, listed, a, G => Region.ready md ops listed = [] ∧ ∀ w, G w → Q .normal a w
  | fuel + 1, listed, a, G => (Region.ready md ops listed = [] → ∀ w, G w → Q .normal a w) ∧
    ∀ i ∈ Region.ready md ops listed, ∀ w, G w → wpOp P ops Q i (fun a' w' => ∃ G' : World → Prop, Stable G' ∧ (∀ x, G' x → G x) ∧ G' w' ∧ wpAnyW P md ops Q fuel (listed.setIfInBounds i true) a' G') a w

theorem wpAny_of_w : ∀ (fuel : Nat) (listed : Array Bool) (a : Act) (w : World) (G : World → Prop), wpAnyW P md ops Q fuel listed a G → G w → wpAny P md ops Q fuel listed a w
  | 0, _, _, _, _, h, hS => ⟨h.1, h.2 _ hS⟩
  | fuel + 1, _, _, _, _, h, hS => ⟨fun h0 => h.1 h0 _ hS, fun i hi => wpOp_mono (fun a' w' ⟨G', _, _, h1, h2⟩ => wpAny_of_w fuel _ a' w' G' h2 h1) (h.2 i hi _ hS)⟩

/-- One operation 'oj' apart from 'oi': whether 'oi''s value is already in its temporary makes no difference to it. -/
theorem wpOp_putG {j : Nat} {oi oj : Oper} {v : Value} {G : World → Prop} (hj : ops[j]? = some oj) (hap : oi.apart ops oj = true)
    (hsi : ∀ cs b, oi.op ≠ .select cs b) (hsj : ∀ cs b, oj.op ≠ .select cs b)
    (hQ : ∀ c a w, Q (.panic c) (a.put oi.dst v) w → Q (.panic c) a w) {K : Act → World → Prop} {a : Act} {w : World}
    (hy : DetG P ops G oi v a) (h : wpOp P ops Q j K (a.put oi.dst v) w) :
    wpOp P ops Q j (fun a' w' => DetG P ops G oi v a' ∧ K (a'.put oi.dst v) w') a w := by
  obtain ⟨h1, h2, h3⟩ := Oper.apart_spec hap
  have keep : ∀ (a : Act), DetG P ops G oi v a → ∀ u, DetG P ops G oi v (a.put oj.dst u) := fun a hy u =>
    hy.of_same (execOp_put oi hsi a oj.dst u h3) (wanted_put oi a oj.dst u h3)
  have keepD : ∀ d, DetG P ops G oi v { a with defers := d :: a.defers } := fun d => hy.of_same rfl rfl
  unfold wpOp at *
  simp only [hj] at *
  rw [wanted_put oj a oi.dst v h1] at h
  split
  · rename_i hw
    simp only [hw, if_true] at h
    rcases h with h | ⟨hasks, hlets⟩
    case inr => exact .inr ⟨by unfold Oper.asks at *; rw [execOp_put oj hsj a oi.dst v h1] at hasks; exact hasks, hlets⟩
    refine .inl ?_
    unfold Oper.wp at *
    rw [execOp_put oj hsj a oi.dst v h1] at h
    generalize (execOp a.eval oj).run P w = r at *
    cases r with
    | ok n w' =>
      cases n <;> simp only [Oper.upon] at h ⊢
      case value u => exact ⟨keep a hy u, by rw [← Act.put_comm a v u h2]; exact h⟩
      case skip => exact ⟨keep a hy _, by rw [← Act.put_comm a v undef h2]; exact h⟩
      case defer d =>
        refine ⟨keep _ (keepD d) _, ?_⟩
        rw [← Act.put_comm _ v undef h2, ← Act.put_defers]
        exact h
      case enter f args =>
        refine Calls.mono h fun e w'' he => ?_
        cases e with
        | returned u => exact ⟨keep a hy u, by rw [← Act.put_comm a v u h2]; exact he⟩
        | panicked c => exact hQ _ _ _ he
        | outgrown => exact he
      case row row args => exact Rows.mono h fun u w'' he => ⟨keep a hy u, by rw [← Act.put_comm a v u h2]; exact he⟩
    | halt x w' =>
      cases x <;> simp only [Oper.upon] at h ⊢
      case panic u => exact hQ _ _ _ h
  · rename_i hw
    simp only [hw] at h
    exact ⟨keep a hy _, by rw [← Act.put_comm a v undef h2]; exact h⟩

theorem wpAnyW_first {i : Nat} {oi : Oper} {v : Value} (hi : ops[i]? = some oi) (hsel : ∀ (j : Nat) (o : Oper) cs b, ops[j]? = some o → o.op ≠ .select cs b)
    (hQ : ∀ c a w, Q (.panic c) (a.put oi.dst v) w → Q (.panic c) a w) :
    ∀ (fuel : Nat) (listed : Array Bool) (a : Act) (G : World → Prop), Stable G →
      (∀ j oj, ops[j]? = some oj → j ≠ i → listed.getD j true = false → (∀ e ∈ oj.after, Region.binds md e = true → e.on ≠ i) → oi.apart ops oj = true) →
      i ∈ Region.ready md ops listed → DetG P ops G oi v a →
      wpAnyW P md ops Q fuel (listed.setIfInBounds i true) (a.put oi.dst v) G → wpAnyW P md ops Q (fuel + 1) listed a G := by
  intro fuel
  induction fuel with
  | zero =>
    intro listed a G hst _ hr hy H
    refine ⟨fun h => (by rw [h] at hr; cases hr), fun j hj w hG => ?_⟩
    by_cases hji : j = i
    · subst hji; exact hy.wpOp hi hst hG fun w' hG' => ⟨G, hst, fun _ h => h, hG', H⟩
    · have := ready_mono hj hji
      rw [H.1] at this
      cases this
  | succ fuel ih =>
    intro listed a G hst hfree hr hy H
    refine ⟨fun h => (by rw [h] at hr; cases hr), fun j hj w hG => ?_⟩
    by_cases hji : j = i
    · subst hji; exact hy.wpOp hi hst hG fun w' hG' => ⟨G, hst, fun _ h => h, hG', H⟩
    · have h1 := H.2 j (ready_mono hj hji) w hG
      obtain ⟨hjun, oj, hoj, hall⟩ := mem_ready.1 hj
      have hnot : ∀ e ∈ oj.after, Region.binds md e = true → e.on ≠ i := fun e he hb heq => by
        have h1 := hall e he hb
        have h0 := (mem_ready.1 hr).1
        rw [heq] at h1
        rcases Nat.lt_or_ge i listed.size with h' | h'
        · simp [h'] at h0 h1; rw [h0] at h1; cases h1
        · simp [Array.getElem?_eq_none h'] at h1
      have h2 := wpOp_putG hoj (hfree j oj hoj hji hjun hnot) (fun cs b => hsel i oi cs b hi) (fun cs b => hsel j oj cs b hoj) hQ hy h1
      have hfree' : ∀ k ok, ops[k]? = some ok → k ≠ i → (listed.setIfInBounds j true).getD k true = false →
          (∀ e ∈ ok.after, Region.binds md e = true → e.on ≠ i) → oi.apart ops ok = true := fun k ok hk hki hun hno => by
        refine hfree k ok hk hki ?_ hno
        by_cases hjk : j = k
        · subst hjk; exact hjun
        · rw [getD_set_ne true hjk] at hun; exact hun
      refine wpOp_mono (fun a' w' ⟨hd, G', hst', hle, hG', hn⟩ => ⟨G', hst', hle, hG', ih (listed.setIfInBounds j true) a' G' hst' hfree' (ready_mono hr (Ne.symm hji)) (hd.less hle) ?_⟩) h2
      rw [Array.setIfInBounds_comm _ _ hji]
      exact hn

theorem get_of_drop {l rest : List Oper} {i : Nat} {oi : Oper} (hi : l.drop i = oi :: rest) : l.toArray[i]? = some oi := by
  have h1 : (l.drop i)[0]? = some oi := by rw [hi]; rfl
  rw [List.getElem?_drop] at h1
  simpa using h1

/-- Take number i first. -/
theorem takeW {l rest : List Oper} {i : Nat} {oi : Oper} {v : Value} {fuel : Nat} {listed : Array Bool} {a : Act} {G : World → Prop} (hst : Stable G) (hi : l.drop i = oi :: rest)
    (hs : Region.noSelect l.toArray = true) (hf : Region.free md l.toArray listed i = true) (hr : (Region.ready md l.toArray listed).contains i = true)
    (hQ : ∀ c a w, Q (.panic c) (a.put oi.dst v) w → Q (.panic c) a w) (hy : DetG P l.toArray G oi v a)
    (h : wpAnyW P md l.toArray Q fuel (listed.setIfInBounds i true) (a.put oi.dst v) G) : wpAnyW P md l.toArray Q (fuel + 1) listed a G :=
  wpAnyW_first (get_of_drop hi) (Region.noSelect_spec hs) hQ fuel listed a G hst (Region.free_spec (get_of_drop hi) hf) (by simpa using hr) hy h

/-- Only number i may come up: whatever it hands back is added to what is known. -/
theorem freeW {l rest : List Oper} {i : Nat} {oi : Oper} {fuel : Nat} {listed : Array Bool} {a : Act} {G : World → Prop} (R : Value → World → Prop) (hst : Stable G) (hR : ∀ v, Stable (R v)) (hi : l.drop i = oi :: rest)
    (hr : Region.ready md l.toArray listed = [i]) (hw : Region.wanted oi (yielded l.toArray a.tmps) = true) (hy : ∀ w, G w → FreeR P R w ((execOp a.eval oi).run P w))
    (h : ∀ v, wpAnyW P md l.toArray Q fuel (listed.setIfInBounds i true) (a.put oi.dst v) (fun x => G x ∧ R v x)) : wpAnyW P md l.toArray Q (fuel + 1) listed a G := by
  refine ⟨fun h0 => (by rw [hr] at h0; cases h0), fun j hj w hG => ?_⟩
  rw [hr] at hj
  obtain rfl : j = i := by simpa using hj
  unfold wpOp
  simp only [get_of_drop hi, hw, if_true]
  refine .inl ?_
  unfold Oper.wp
  have hd := hy w hG
  generalize (execOp a.eval oi).run P w = r at *
  cases r with
  | ok n w' =>
    cases n <;> simp only [FreeR] at hd <;> simp only [Oper.upon]
    case value u => exact ⟨_, hst.and (hR u), fun _ hx => hx.1, ⟨hst _ _ hG hd.2, hd.1⟩, h u⟩
    case enter f args => exact hd.mono fun e w'' he => by obtain ⟨u, rfl, h1, h2⟩ := he; exact ⟨_, hst.and (hR u), fun _ hx => hx.1, ⟨hst _ _ hG h2, h1⟩, h u⟩
  | halt x w' => simp [FreeR] at hd

theorem doneW {listed : Array Bool} {a : Act} {G : World → Prop} (hr : Region.ready md ops listed = []) (h : ∀ w, G w → Q .normal a w) : wpAnyW P md ops Q 0 listed a G := ⟨hr, h⟩

theorem regionW (G : World → Prop) {id : Nat} {a : Act} {w : World} (hm : P.follows .mixedOrders = true) (hS : G w.drew)
    (h : wpAnyW P .any ops Q ops.size (Array.replicate ops.size false) a G) : (Code.region id ops true).wp P Q a w :=
  wp_region_any hm (wpAny_of_w _ _ _ _ _ h hS)

end
end Go.Proofs.YtepacoacalhdcaaGreat

namespace Go.Proofs.YtepacoacalhdcaaGreat
open Go.RowKit
set_option linter.unusedVariables false
set_option linter.unusedSimpArgs false

theorem blk3 (w : World) (o0 o1 o2 : Obj) : (((w.alloc o0).alloc o1).alloc o2).heap[w.heap.size]? = some o0 ∧ (((w.alloc o0).alloc o1).alloc o2).heap[w.heap.size + 1]? = some o1 ∧ (((w.alloc o0).alloc o1).alloc o2).heap[w.heap.size + 1 + 1]? = some o2 := by
  have h0 := heap_alloc_new w o0
  have h1 := heap_alloc_new (w.alloc o0) o1
  have h2 := heap_alloc_new ((w.alloc o0).alloc o1) o2
  have s1 : (w.alloc o0).heap.size = w.heap.size + 1 := by simp
  have s2 : ((w.alloc o0).alloc o1).heap.size = w.heap.size + 1 + 1 := by simp
  rw [s1] at h1
  rw [s2] at h2
  refine ⟨?_, ?_, h2⟩
  · rw [Below.heap_alloc _ _ _ (by omega), Below.heap_alloc _ _ _ (by omega)]; exact h0
  · rw [Below.heap_alloc _ _ _ (by omega)]; exact h1

theorem Mine.keepAt {w w' : World} {B : Nat} {T : TypeId} {v : Value} {xs : List Nd} (h : Mine w B T v xs) (hk : ∀ g, B ≤ g → w'.heap[g]? = w.heap[g]?) : Mine w' B T v xs := by
  obtain ⟨A, c, n, rfl, hl, hc, hx⟩ := h
  refine ⟨A, c, n, rfl, hl, hc, fun h0 => ?_⟩
  obtain ⟨g, rfl, hB, hn, hh⟩ := hx h0
  exact ⟨g, rfl, hB, hn, hh.keep (hk g hB)⟩

theorem Mine.form {w : World} {B : Nat} {T : TypeId} {v : Value} {xs : List Nd} (h : Mine w B T v xs) : ∃ (A : Option Addr) (c : Nat), v = .slice A xs.length c := by
  obtain ⟨A, c, n, rfl, _⟩ := h
  exact ⟨A, c, rfl⟩

/-- A window of the call's own: its nodes in a block from the old heap's end on, its leads in a later one. -/
def WinIs (T U : TypeId) (ns ls : List Nd) (w : World) (e : Ending) (w' : World) : Prop :=
  ∃ (v1 v2 : Value) (B : Nat), e = .returned (.agg #[v1, v2]) ∧ Mine w' w.heap.size T v1 ns ∧ w.heap.size ≤ B ∧ (∀ g c n, v1 = .slice (some ⟨g, 0, none⟩) n c → 0 < n → g < B) ∧ Mine w' B U v2 ls ∧ Below w.heap.size w w'

theorem toWindow_any (ns ls : List Nd) (vn vl : Value) (w : World) (hn : Prs w vn ns) (hl : Prs w vl ls) (h1 : ns.length ≤ 1048576) (h2 : ls.length ≤ 1048576) :
    Calls Tryz.prog 18 #[.agg #[vn, vl]] w (WinIs 115 151 ns ls w) := by
  have HN := Lib.hid hn
  have HL := Lib.hid hl
  obtain ⟨A, c, rfl⟩ := prs_form2 hn
  obtain ⟨A2, c2, rfl⟩ := prs_form2 hl
  clear hn hl
  have HT := Lib.hid (fun w hv => toNodeS_any ns (.slice A ns.length c) w hv h1)
  have HU := Lib.hid (fun w hv => toLeadS_any ls (.slice A2 ls.length c2) w hv h2)
  unfold MineIs at HT HU
  have hb3 := blk3 w (.cells #[.slice A ns.length c, .slice A2 ls.length c2] 25) (.cells #[.slice none 0 0, .slice none 0 0] 32) (.cells #[.slice none 0 0, .slice none 0 0] 32)
  have HB3 := Lib.hid hb3; clear hb3
  have HBL := Lib.hid (below3 w (.cells #[.slice A ns.length c, .slice A2 ls.length c2] 25) (.cells #[.slice none 0 0, .slice none 0 0] 32) (.cells #[.slice none 0 0, .slice none 0 0] 32))
  go_enter Tryz.func18, Tryz.ntmps18
  go_wp2_with fail
  refine (HT.out _ (HN.out.step HBL.out)).mono ?_
  rintro e w1 ⟨v1, rfl, hm1, hb1⟩
  have hs1 := hb1.size
  have hsz : (((w.alloc (.cells #[.slice A ns.length c, .slice A2 ls.length c2] 25)).alloc (.cells #[.slice none 0 0, .slice none 0 0] 32)).alloc (.cells #[.slice none 0 0, .slice none 0 0] 32)).heap.size = w.heap.size + 1 + 1 + 1 := by simp
  rw [hsz] at hm1 hs1
  have k0 := (hb1.block w.heap.size (by omega)).trans HB3.out.1
  have k1 := (hb1.block (w.heap.size + 1) (by omega)).trans HB3.out.2.1
  have k2 := (hb1.block (w.heap.size + 1 + 1) (by omega)).trans HB3.out.2.2
  have HB1 := Lib.hid (HBL.out.trans (hb1.mono (by omega))); clear hb1 hsz
  obtain ⟨A1, c1, rfl⟩ := hm1.form
  have HM1 := Lib.hid hm1; clear hm1
  have x0 : w1.cell? ⟨w.heap.size, 0, none⟩ = some (.slice A ns.length c) := (cell_of_cells k0).trans rfl
  have x1 : w1.cell? ⟨w.heap.size, 1, none⟩ = some (.slice A2 ls.length c2) := (cell_of_cells k0).trans rfl
  have x2 : w1.cell? ⟨w.heap.size + 1 + 1, 0, none⟩ = some (.slice none 0 0) := (cell_of_cells k2).trans rfl
  have x3 : w1.cell? ⟨w.heap.size + 1 + 1, 1, none⟩ = some (.slice none 0 0) := (cell_of_cells k2).trans rfl
  have x4 : w1.frozen? ⟨w.heap.size + 1 + 1, 0, none⟩ = false := free_of_cells k2
  have K1 := Lib.hid k1; clear k1
  have K2 := Lib.hid k2; clear k2
  have K0 := Lib.hid k0; clear k0
  go_wp2_with fail
  have HBS := Lib.hid (HB1.out.setCell (p := ⟨w.heap.size + 1 + 1, 0, none⟩) (by show w.heap.size ≤ w.heap.size + 1 + 1; omega) (.slice A1 ns.length c1))
  refine (HU.out _ (HL.out.step HBS.out)).mono ?_
  rintro e w2 ⟨v2, rfl, hm2, hb2⟩
  have hs2 := hb2.size
  have es : (w1.setCell ⟨w.heap.size + 1 + 1, 0, none⟩ (.slice A1 ns.length c1)).heap.size = w1.heap.size := heap_setCell_size _ _ _
  rw [es] at hm2 hs2
  have j2 := (hb2.block (w.heap.size + 1 + 1) (by rw [es]; omega)).trans (heap_setCell_self (k := 0) K2.out (.slice A1 ns.length c1))
  have j1 := (hb2.block (w.heap.size + 1) (by rw [es]; omega)).trans ((Below.heap_setCell w1 ⟨w.heap.size + 1 + 1, 0, none⟩ (.slice A1 ns.length c1) (w.heap.size + 1) (by show w.heap.size + 1 ≠ w.heap.size + 1 + 1; omega)).trans K1.out)
  have hm1' := HM1.out.keepAt (w' := w1.setCell ⟨w.heap.size + 1 + 1, 0, none⟩ (.slice A1 ns.length c1)) (fun g hg => Below.heap_setCell _ _ _ _ (by show g ≠ w.heap.size + 1 + 1; omega))
  have hm1'' := hm1'.below hb2
  have hlt1 : ∀ g c n, Value.slice A1 ns.length c1 = .slice (some ⟨g, 0, none⟩) n c → 0 < n → g < w1.heap.size := by
    intro g c n he hn0
    obtain ⟨A', c', n', he', _, _, hx⟩ := HM1.out
    injection he with e1 e2 e3
    injection he' with e4 e5 e6
    obtain ⟨g', hg', _, _, hh⟩ := hx (by omega)
    rw [← e4, e1] at hg'
    injection hg' with hg'
    injection hg' with hg' _ _
    rw [hg']
    exact hh.lt
  have HB2 := Lib.hid (HBS.out.trans (hb2.mono HBS.out.size)); clear hb2 hm1'
  obtain ⟨A3, c3, rfl⟩ := hm2.form
  have HM1 := Lib.hid hm1''; clear hm1''
  have HM2 := Lib.hid hm2; clear hm2
  have HLT := Lib.hid hlt1; clear hlt1
  clear x0 x1 x2 x3 x4
  have y1 : w2.cell? ⟨w.heap.size + 1 + 1, 0, none⟩ = some (.slice A1 ns.length c1) := (cell_of_cells j2).trans rfl
  have y2 : w2.cell? ⟨w.heap.size + 1 + 1, 1, none⟩ = some (.slice none 0 0) := (cell_of_cells j2).trans rfl
  have y3 : w2.frozen? ⟨w.heap.size + 1 + 1, 1, none⟩ = false := free_of_cells j2
  have y4 : w2.cell? ⟨w.heap.size + 1, 0, none⟩ = some (.slice none 0 0) := (cell_of_cells j1).trans rfl
  have y5 : w2.cell? ⟨w.heap.size + 1, 1, none⟩ = some (.slice none 0 0) := (cell_of_cells j1).trans rfl
  have y6 : w2.frozen? ⟨w.heap.size + 1, 0, none⟩ = false := free_of_cells j1
  have y7 : w2.frozen? ⟨w.heap.size + 1, 1, none⟩ = false := free_of_cells j1
  have J1 := Lib.hid j1; clear j1
  have J2 := Lib.hid j2; clear j2
  clear es
  go_wp2_with fail
  have m0 := (Below.heap_setCell w2 ⟨w.heap.size + 1 + 1, 1, none⟩ (.slice A3 ls.length c3) (w.heap.size + 1) (by show w.heap.size + 1 ≠ w.heap.size + 1 + 1; omega)).trans J1.out
  have m1 := heap_setCell_self (k := 0) m0 (.slice A1 ns.length c1)
  have m2 := heap_setCell_self (k := 1) m1 (.slice A3 ls.length c3)
  have r0 := (cell_of_cells (k := 0) m2).trans (rfl : _ = some (Value.slice A1 ns.length c1))
  have r1 := (cell_of_cells (k := 1) m2).trans (rfl : _ = some (Value.slice A3 ls.length c3))
  have hfar : ∀ g, w.heap.size + 1 + 1 + 1 ≤ g → (((w2.setCell ⟨w.heap.size + 1 + 1, 1, none⟩ (.slice A3 ls.length c3)).setCell ⟨w.heap.size + 1, 0, none⟩ (.slice A1 ns.length c1)).setCell ⟨w.heap.size + 1, 1, none⟩ (.slice A3 ls.length c3)).heap[g]? = w2.heap[g]? := by
    intro g hg
    rw [Below.heap_setCell _ _ _ _ (by show g ≠ w.heap.size + 1; omega), Below.heap_setCell _ _ _ _ (by show g ≠ w.heap.size + 1; omega), Below.heap_setCell _ _ _ _ (by show g ≠ w.heap.size + 1 + 1; omega)]
  refine bodyPost_ret (v := .agg #[.slice A1 ns.length c1, .slice A3 ls.length c3]) (by simp [results, Tryz.results18, go_sem, r0, r1]) rfl ?_
  refine ⟨_, _, w1.heap.size, rfl, (HM1.out.keepAt hfar).mono (by omega), by omega, HLT.out, (HM2.out.keepAt fun g hg => hfar g (by omega)), ?_⟩
  exact ((HB2.out.setCell (p := ⟨_, _, none⟩) (by show w.heap.size ≤ w.heap.size + 1 + 1; omega) _).setCell (p := ⟨_, _, none⟩) (by show w.heap.size ≤ w.heap.size + 1; omega) _).setCell (p := ⟨_, _, none⟩) (by show w.heap.size ≤ w.heap.size + 1; omega) _

theorem szWindow_any (n1 c1 n2 c2 : Nat) (A1 A2 : Option Addr) (w : World) (h1 : n1 ≤ 9223372036854775807) (h2 : n2 ≤ 9223372036854775807) :
    Calls Tryz.prog 16 #[.agg #[.slice A1 n1 c1, .slice A2 n2 c2], .int .i64 1048576] w (fun e w' => ∃ r : Int, e = .returned (.int .i64 r) ∧ (r < 0 ∨ 0 ≤ r ∧ n1 ≤ 1048576 ∧ n2 ≤ 1048576) ∧ Below w.heap.size w w') := by
  have HZ := Lib.hid (fun w => szNodeS_any n1 c1 A1 1048576 w (by omega) (by omega) h1)
  have H0 := Lib.hid ((Held.none_ w).new2 w.heap.size rfl [.slice A1 n1 c1, .slice A2 n2 c2] 25)
  by_cases hb : (1048576 : Int) < n1
  · rw [if_pos hb] at HZ
    go_enter Tryz.func16, Tryz.ntmps16
    go_wp2_with fail
    refine (HZ.out _).mono ?_
    rintro e w1 ⟨rfl, rfl⟩
    go_wp2_with fail
    go_ret
    exact ⟨-1, rfl, by omega, H0.out.below⟩
  rw [if_neg hb] at HZ
  have HY := Lib.hid (fun w => szLeadS_any n2 c2 A2 (1048576 - n1) w (by omega) (by omega) h2)
  by_cases hb2 : (1048576 : Int) - n1 < n2
  · rw [if_pos hb2] at HY
    go_enter Tryz.func16, Tryz.ntmps16
    go_wp2_with fail
    refine (HZ.out _).mono ?_
    rintro e w1 ⟨rfl, rfl⟩
    go_wp2_with fail
    refine (HY.out _).mono ?_
    rintro e w1 ⟨rfl, rfl⟩
    go_wp2_with fail
    go_ret
    exact ⟨-1, rfl, by omega, H0.out.below⟩
  · rw [if_neg hb2] at HY
    go_enter Tryz.func16, Tryz.ntmps16
    go_wp2_with fail
    refine (HZ.out _).mono ?_
    rintro e w1 ⟨rfl, rfl⟩
    go_wp2_with fail
    refine (HY.out _).mono ?_
    rintro e w1 ⟨rfl, rfl⟩
    go_wp2_with fail
    go_ret
    exact ⟨_, rfl, by omega, H0.out.below⟩

theorem eqWindow_yes (ns ls : List Nd) (v1 v2 u1 u2 : Value) (w : World) (h1 : Prs w v1 ns) (h2 : Prs w v2 ls) (h3 : Prs w u1 ns) (h4 : Prs w u2 ls) :
    Calls Tryz.prog 21 #[.agg #[v1, v2], .agg #[u1, u2]] w (BoolIs true w) := by
  have P1 := Lib.hid h1
  have P2 := Lib.hid h2
  have P3 := Lib.hid h3
  have P4 := Lib.hid h4
  obtain ⟨A1, c1, rfl⟩ := prs_form2 h1
  obtain ⟨A2, c2, rfl⟩ := prs_form2 h2
  obtain ⟨A3, c3, rfl⟩ := prs_form2 h3
  obtain ⟨A4, c4, rfl⟩ := prs_form2 h4
  clear h1 h2 h3 h4
  have HE := Lib.hid (fun w a b => eqNodeS_yes ns (.slice A1 ns.length c1) (.slice A3 ns.length c3) w a b)
  have HF := Lib.hid (fun w a b => eqLeadS_yes ls (.slice A2 ls.length c2) (.slice A4 ls.length c4) w a b)
  have H0 := Lib.hid (((Held.none_ w).new2 w.heap.size rfl [.slice A1 ns.length c1, .slice A2 ls.length c2] 32).new2 (w.heap.size + 1) (by simp) [.slice A3 ns.length c3, .slice A4 ls.length c4] 32)
  go_enter Tryz.func21, Tryz.ntmps21
  go_wp2_with fail
  refine (HE.out _ (P1.out.step H0.out.below) (P3.out.step H0.out.below)).mono ?_
  rintro e wH1 ⟨rfl, hb⟩
  have H1 := Lib.hid ((H0.out).step hb); clear hb
  try clear x0 x1 x2 x3
  obtain ⟨x0, x1, x2, x3, _⟩ := H1.out.1
  go_wp2_with fail
  refine (HF.out _ (P2.out.step H1.out.below) (P4.out.step H1.out.below)).mono ?_
  rintro e wH2 ⟨rfl, hb⟩
  have H2 := Lib.hid ((H1.out).step hb); clear hb
  try clear x0 x1 x2 x3
  obtain ⟨x0, x1, x2, x3, _⟩ := H2.out.1
  go_wp2_with fail
  go_ret
  exact ⟨rfl, H2.out.below⟩

/-- The value v reads as the window of ns and ls. -/
def WinAt (w : World) (v : Value) (ns ls : List Nd) : Prop := ∃ (A1 A2 : Option Addr) (c1 c2 : Nat), v = .agg #[.slice A1 ns.length c1, .slice A2 ls.length c2] ∧ Prs w (.slice A1 ns.length c1) ns ∧ Prs w (.slice A2 ls.length c2) ls

theorem WinAt.step {w w' : World} {v : Value} {ns ls : List Nd} (h : WinAt w v ns ls) (hb : Below w.heap.size w w') : WinAt w' v ns ls := by
  obtain ⟨A1, A2, c1, c2, rfl, h1, h2⟩ := h
  exact ⟨A1, A2, c1, c2, rfl, h1.step hb, h2.step hb⟩

theorem stable_win (v : Value) (ns ls : List Nd) : Stable fun W => WinAt W v ns ls := fun _ _ h hb => h.step hb

theorem WinAt.mk {w : World} {v1 v2 : Value} {ns ls : List Nd} (h1 : Prs w v1 ns) (h2 : Prs w v2 ls) : WinAt w (.agg #[v1, v2]) ns ls := by
  obtain ⟨A1, c1, rfl⟩ := prs_form2 h1
  obtain ⟨A2, c2, rfl⟩ := prs_form2 h2
  exact ⟨A1, A2, c1, c2, rfl, h1, h2⟩

theorem toWindow_at (ns ls : List Nd) (v : Value) (w : World) (hv : WinAt w v ns ls) (h1 : ns.length ≤ 1048576) (h2 : ls.length ≤ 1048576) :
    Calls Tryz.prog 18 #[v] w (fun e w' => ∃ v', e = .returned v' ∧ WinAt w' v' ns ls ∧ Below w.heap.size w w') := by
  obtain ⟨A1, A2, c1, c2, rfl, k1, k2⟩ := hv
  exact (toWindow_any ns ls _ _ w k1 k2 h1 h2).mono fun _ _ ⟨v1, v2, B, he, hm1, _, _, hm2, hb⟩ => ⟨_, he, .mk hm1.prs hm2.prs, hb⟩

theorem eqWindow_at (ns ls : List Nd) (v u : Value) (w : World) (hv : WinAt w v ns ls) (hu : WinAt w u ns ls) :
    Calls Tryz.prog 21 #[v, u] w (BoolIs true w) := by
  obtain ⟨A1, A2, c1, c2, rfl, k1, k2⟩ := hv
  obtain ⟨A3, A4, c3, c4, rfl, k3, k4⟩ := hu
  exact eqWindow_yes ns ls _ _ _ _ w k1 k2 k3 k4
end Go.Proofs.YtepacoacalhdcaaGreat

namespace Go.Proofs.YtepacoacalhdcaaGreat
open Go.RowKit
set_option linter.unusedVariables false
set_option linter.unusedSimpArgs false

/-- n pairs of ints. -/
def PairsIn (C : Array Value) (n : Nat) : Prop := C.size = n * 2 ∧ ∀ j, j < n → ∃ p q : Int, C[j * 2]? = some (.int .i64 p) ∧ C[j * 2 + 1]? = some (.int .i64 q)

theorem PairsIn.set_ {C : Array Value} {n k : Nat} (h : PairsIn C n) (hk : k < n) (a b : Int) : PairsIn ((C.setIfInBounds (k * 2) (.int .i64 a)).setIfInBounds (k * 2 + 1) (.int .i64 b)) n := by
  obtain ⟨hs, ha⟩ := h
  refine ⟨by simpa using hs, fun j hj => ?_⟩
  by_cases hjk : j = k
  · subst hjk
    refine ⟨a, b, ?_, ?_⟩
    · rw [Array.getElem?_setIfInBounds_ne (by omega), Array.getElem?_setIfInBounds_self_of_lt (by omega)]
    · rw [Array.getElem?_setIfInBounds_self_of_lt (by simp; omega)]
  · obtain ⟨p, q, h1, h2⟩ := ha j hj
    refine ⟨p, q, ?_, ?_⟩
    · rw [Array.getElem?_setIfInBounds_ne (by omega), Array.getElem?_setIfInBounds_ne (by omega)]; exact h1
    · rw [Array.getElem?_setIfInBounds_ne (by omega), Array.getElem?_setIfInBounds_ne (by omega)]; exact h2

theorem grown_set {w wr : World} {g j : Nat} {x : Value} (a : w.grownBy wr (some g)) : w.grownBy (wr.setCell ⟨g, j, none⟩ x) (some g) := by
  refine ⟨a.os, a.tape, a.output, ?_, fun i hi hne => ?_⟩
  · rw [heap_setCell_size]; exact a.size
  · rw [Below.heap_setCell _ _ _ _ (fun e => hne (by rw [e])), a.block i hi hne]

/-- An int is returned; at most one block has turned: the slice's own. -/
def Marked (v : Value) (B m : Nat) (xs : List Nd) (w : World) (e : Ending) (w' : World) : Prop :=
  e = .returned (.int .i64 (m : Int)) ∧ ∃ row, w.grownBy w' row ∧ ∀ g, row = some g → B ≤ g ∧ g < w.heap.size ∧ 0 < xs.length ∧ ∃ c, v = .slice (some ⟨g, 0, none⟩) xs.length c

theorem markNodeS_any {B : Nat} {T : TypeId} {w : World} {v : Value} {xs : List Nd} (k0 : Nat) (h : Mine w B T v xs) (hlen : xs.length ≤ 1048576) (hk0 : k0 ≤ 4000000) :
    Calls Tryz.prog 67 #[v, .int .i64 k0] w (Marked v B (k0 + 2 * xs.length) xs w) := by
  obtain ⟨A, c, n, rfl, hl, hc, hx⟩ := h
  by_cases hz : xs.length = 0
  · clear hx
    obtain rfl : xs = [] := List.eq_nil_of_length_eq_zero hz
    go_enter Tryz.func67, Tryz.ntmps67
    go_wp2_with fail
    go_loopw [1, 5] (fun v i wr => i = .int .i64 0 ∧ v = .int .i64 k0 ∧ wr = w) (fun _ _ _ => 0)
    case atStart => exact ⟨rfl, rfl, rfl⟩
    case round =>
      obtain ⟨rfl, rfl, rfl⟩ := hrel
      go_wp2_with fail
      go_ret
      exact ⟨by simp, none, ⟨rfl, rfl, rfl, Nat.le_refl _, fun _ _ _ => rfl⟩, fun _ e => by cases e⟩
  · obtain ⟨g, rfl, hB, hn, C, hC, hs, ha, _⟩ := hx (by omega)
    have hgl : g < w.heap.size := lt_of_block hC
    have HP := Lib.hid (And.intro hC (show PairsIn C n from ⟨hs, ha⟩)); clear hC hs ha
    go_enter Tryz.func67, Tryz.ntmps67
    go_wp2_with fail
    go_loopw [1, 5] (fun v i wr => ∃ k : Nat, k ≤ xs.length ∧ i = .int .i64 k ∧ v = .int .i64 ((k0 : Int) + 2 * k) ∧ (∃ C, wr.heap[g]? = some (.cells C T (0, 0)) ∧ PairsIn C n) ∧ w.grownBy wr (some g)) (fun _ i _ => xs.length - (intOf i).toNat)
    case atStart => exact ⟨0, Nat.zero_le _, rfl, by go_num, ⟨C, HP.out⟩, ⟨rfl, rfl, rfl, Nat.le_refl _, fun _ _ _ => rfl⟩⟩
    case round =>
      clear HP
      obtain ⟨k, hk, rfl, rfl, ⟨C, hC, hp⟩, hgr⟩ := hrel
      have HGR := Lib.hid hgr; clear hgr
      by_cases hlt : k < xs.length
      · obtain ⟨p, q, h1, h2⟩ := hp.2 k (by omega)
        have g0 : wr.cell? ⟨g, k * 2, none⟩ = some (.int .i64 p) := by rw [cell_of_cells hC]; exact h1
        have g1 : wr.cell? ⟨g, k * 2 + 1, none⟩ = some (.int .i64 q) := by rw [cell_of_cells hC]; exact h2
        have f0 : wr.frozen? ⟨g, k * 2, none⟩ = false := free_of_cells hC
        have f1 : wr.frozen? ⟨g, k * 2 + 1, none⟩ = false := free_of_cells hC
        have HS := Lib.hid (fun a b => hp.set_ (k := k) (by omega) a b)
        have HCC := Lib.hid hC
        clear hC hp h1 h2
        go_wp2_with fail
        exact ⟨⟨k + 1, by omega, by go_num, by go_num, ⟨_, heap_setCell_self (heap_setCell_self HCC.out _) _, HS.out _ _⟩, grown_set (grown_set HGR.out)⟩, by simp [intOf]; omega⟩
      · have ek : k = xs.length := by omega
        have EK := Lib.hid ek; clear ek
        go_wp2_with fail
        go_ret
        exact ⟨ret_int (by rw [EK.out]; omega), some g, HGR.out, fun g' e => by injection e with e; subst e; exact ⟨hB, hgl, by omega, _, rfl⟩⟩

theorem markLeadS_any {B : Nat} {T : TypeId} {w : World} {v : Value} {xs : List Nd} (k0 : Nat) (h : Mine w B T v xs) (hlen : xs.length ≤ 1048576) (hk0 : k0 ≤ 4000000) :
    Calls Tryz.prog 68 #[v, .int .i64 k0] w (Marked v B (k0 + 2 * xs.length) xs w) := by
  obtain ⟨A, c, n, rfl, hl, hc, hx⟩ := h
  by_cases hz : xs.length = 0
  · clear hx
    obtain rfl : xs = [] := List.eq_nil_of_length_eq_zero hz
    go_enter Tryz.func68, Tryz.ntmps68
    go_wp2_with fail
    go_loopw [1, 5] (fun v i wr => i = .int .i64 0 ∧ v = .int .i64 k0 ∧ wr = w) (fun _ _ _ => 0)
    case atStart => exact ⟨rfl, rfl, rfl⟩
    case round =>
      obtain ⟨rfl, rfl, rfl⟩ := hrel
      go_wp2_with fail
      go_ret
      exact ⟨by simp, none, ⟨rfl, rfl, rfl, Nat.le_refl _, fun _ _ _ => rfl⟩, fun _ e => by cases e⟩
  · obtain ⟨g, rfl, hB, hn, C, hC, hs, ha, _⟩ := hx (by omega)
    have hgl : g < w.heap.size := lt_of_block hC
    have HP := Lib.hid (And.intro hC (show PairsIn C n from ⟨hs, ha⟩)); clear hC hs ha
    go_enter Tryz.func68, Tryz.ntmps68
    go_wp2_with fail
    go_loopw [1, 5] (fun v i wr => ∃ k : Nat, k ≤ xs.length ∧ i = .int .i64 k ∧ v = .int .i64 ((k0 : Int) + 2 * k) ∧ (∃ C, wr.heap[g]? = some (.cells C T (0, 0)) ∧ PairsIn C n) ∧ w.grownBy wr (some g)) (fun _ i _ => xs.length - (intOf i).toNat)
    case atStart => exact ⟨0, Nat.zero_le _, rfl, by go_num, ⟨C, HP.out⟩, ⟨rfl, rfl, rfl, Nat.le_refl _, fun _ _ _ => rfl⟩⟩
    case round =>
      clear HP
      obtain ⟨k, hk, rfl, rfl, ⟨C, hC, hp⟩, hgr⟩ := hrel
      have HGR := Lib.hid hgr; clear hgr
      by_cases hlt : k < xs.length
      · obtain ⟨p, q, h1, h2⟩ := hp.2 k (by omega)
        have g0 : wr.cell? ⟨g, k * 2, none⟩ = some (.int .i64 p) := by rw [cell_of_cells hC]; exact h1
        have g1 : wr.cell? ⟨g, k * 2 + 1, none⟩ = some (.int .i64 q) := by rw [cell_of_cells hC]; exact h2
        have f0 : wr.frozen? ⟨g, k * 2, none⟩ = false := free_of_cells hC
        have f1 : wr.frozen? ⟨g, k * 2 + 1, none⟩ = false := free_of_cells hC
        have HS := Lib.hid (fun a b => hp.set_ (k := k) (by omega) a b)
        have HCC := Lib.hid hC
        clear hC hp h1 h2
        go_wp2_with fail
        exact ⟨⟨k + 1, by omega, by go_num, by go_num, ⟨_, heap_setCell_self (heap_setCell_self HCC.out _) _, HS.out _ _⟩, grown_set (grown_set HGR.out)⟩, by simp [intOf]; omega⟩
      · have ek : k = xs.length := by omega
        have EK := Lib.hid ek; clear ek
        go_wp2_with fail
        go_ret
        exact ⟨ret_int (by rw [EK.out]; omega), some g, HGR.out, fun g' e => by injection e with e; subst e; exact ⟨hB, hgl, by omega, _, rfl⟩⟩
end Go.Proofs.YtepacoacalhdcaaGreat

namespace Go.Proofs.YtepacoacalhdcaaGreat
open Go.RowKit
set_option linter.unusedVariables false
set_option linter.unusedSimpArgs false

def idxB (n : Nat) (i : Int) : Bool := decide (0 ≤ i) && decide (i < (n : Int))

theorem idxB_iff (n : Nat) (i : Int) : idxB n i = true ↔ 0 ≤ i ∧ i < (n : Int) := by simp [idxB]

theorem idxB_in (n : Nat) (i : Int) : inB i 0 ((n : Int) - 1) = idxB n i := by
  rw [Bool.eq_iff_iff, inB_iff, idxB_iff]; omega

def leadOkB (xs : List Nd) (l : Nd) : Bool :=
  idxB xs.length l.x && idxB xs.length l.y && decide (l.x < l.y) && (okB (atI xs l.x) && okB (atI xs l.y)) && decide (atI xs l.x ≠ atI xs l.y)

theorem leadOkB_spec {xs : List Nd} {l : Nd} (h : leadOkB xs l = true) : ∃ i j : Nat, l = ⟨i, j⟩ ∧ i < j ∧ i < xs.length ∧ j < xs.length ∧ okB (atN xs i) = true ∧ okB (atN xs j) = true := by
  unfold leadOkB at h
  simp only [Bool.and_eq_true, idxB_iff, decide_eq_true_eq] at h
  obtain ⟨⟨⟨⟨h1, h2⟩, h3⟩, h4, h5⟩, h6⟩ := h
  obtain ⟨x, y⟩ := l
  simp only at h1 h2 h3 h4 h5
  obtain ⟨i, rfl⟩ : ∃ i : Nat, x = i := ⟨x.toNat, by omega⟩
  obtain ⟨j, rfl⟩ : ∃ j : Nat, y = j := ⟨y.toNat, by omega⟩
  exact ⟨i, j, rfl, by omega, by omega, by omega, h4, h5⟩

def otherI (l : Nd) (k : Int) : Int := if k = l.x then l.y else if k = l.y then l.x else -1

def shareB (l m : Nd) : Bool := decide (l.x = m.x) || decide (l.x = m.y) || decide (l.y = m.x) || decide (l.y = m.y)

def onLeadB (xs : List Nd) (l : Nd) (n : Nd) : Bool := leadOkB xs l && (decide (n = atI xs l.x) || decide (n = atI xs l.y) || betweenB (atI xs l.x) (atI xs l.y) n)

def sgnI (n : Int) : Int := if n < 0 then -1 else if 0 < n then 1 else 0

/-- Two lines between ends cross, one ends in the middle of the other, or they are the same. -/
def meetB (a b u v : Nd) : Bool :=
  (betweenB a b u || betweenB a b v || betweenB u v a || betweenB u v b) || (decide (a = u) && decide (b = v) || decide (a = v) && decide (b = u)) ||
  (!(decide (a = u) || decide (a = v) || decide (b = u) || decide (b = v)) && (decide (sgnI (turnI a b u) * sgnI (turnI a b v) < 0) && decide (sgnI (turnI u v a) * sgnI (turnI u v b) < 0)))

def crossB (xs : List Nd) (l m : Nd) : Bool := leadOkB xs l && leadOkB xs m && meetB (atI xs l.x) (atI xs l.y) (atI xs m.x) (atI xs m.y)

theorem sgn_mul (p q : Int) : sgnI p * sgnI q < 0 ↔ p * q < 0 := by
  rcases Int.lt_trichotomy p 0 with h | rfl | h
  · rcases Int.lt_trichotomy q 0 with k | rfl | k
    · have h1 : 0 < p * q := Int.mul_pos_of_neg_of_neg h k
      have e1 : sgnI p = -1 := by unfold sgnI; rw [if_pos h]
      have e2 : sgnI q = -1 := by unfold sgnI; rw [if_pos k]
      rw [e1, e2]; omega
    · simp [sgnI]
    · have h1 : p * q < 0 := Int.mul_neg_of_neg_of_pos h k
      have e1 : sgnI p = -1 := by unfold sgnI; rw [if_pos h]
      have e2 : sgnI q = 1 := by unfold sgnI; rw [if_neg (by omega), if_pos k]
      rw [e1, e2]; omega
  · simp [sgnI]
  · rcases Int.lt_trichotomy q 0 with k | rfl | k
    · have h1 : p * q < 0 := Int.mul_neg_of_pos_of_neg h k
      have e1 : sgnI p = 1 := by unfold sgnI; rw [if_neg (by omega), if_pos h]
      have e2 : sgnI q = -1 := by unfold sgnI; rw [if_pos k]
      rw [e1, e2]; omega
    · simp [sgnI]
    · have h1 : 0 < p * q := Int.mul_pos h k
      have e1 : sgnI p = 1 := by unfold sgnI; rw [if_neg (by omega), if_pos h]
      have e2 : sgnI q = 1 := by unfold sgnI; rw [if_neg (by omega), if_pos k]
      rw [e1, e2]; omega

theorem turn_aa (a b : Nd) : turnI a b a = 0 := by unfold turnI; simp

theorem turn_ab (a b : Nd) : turnI a b b = 0 := by unfold turnI; rw [Int.mul_comm]; omega

def sepB (a b u v : Nd) : Bool := decide (turnI a b u * turnI a b v < 0)

theorem sep_iff (a b u v : Nd) : sepB a b u v = true ↔ turnI a b u * turnI a b v < 0 := by simp [sepB]

/-- The program's way to ask the same. -/
theorem meet_prog (a b u v : Nd) : meetB a b u v =
    ((decide (a = u) && decide (b = v) || decide (a = v) && decide (b = u)) || ((betweenB a b u || betweenB a b v) || (betweenB u v a || betweenB u v b) || (sepB a b u v && sepB u v a b))) := by
  unfold meetB sepB
  simp only [sgn_mul]
  by_cases h : (decide (a = u) || decide (a = v) || decide (b = u) || decide (b = v)) = true
  · have hz : turnI a b u * turnI a b v = 0 := by
      simp only [Bool.or_eq_true, decide_eq_true_eq] at h
      rcases h with ((rfl | rfl) | rfl) | rfl
      · rw [turn_aa]; simp
      · rw [turn_aa]; simp
      · rw [turn_ab]; simp
      · rw [turn_ab]; simp
    rw [h, hz]
    simp only [Bool.not_true, Bool.false_and, Bool.or_false, Int.lt_irrefl, decide_false]
    cases (decide (a = u) && decide (b = v) || decide (a = v) && decide (b = u)) <;> cases betweenB a b u <;> cases betweenB a b v <;> cases betweenB u v a <;> cases betweenB u v b <;> rfl
  · have h' : (decide (a = u) || decide (a = v) || decide (b = u) || decide (b = v)) = false := by simpa using h
    rw [h']
    cases (decide (a = u) && decide (b = v) || decide (a = v) && decide (b = u)) <;> cases betweenB a b u <;> cases betweenB a b v <;> cases betweenB u v a <;> cases betweenB u v b <;> simp
end Go.Proofs.YtepacoacalhdcaaGreat

namespace Go.Proofs.YtepacoacalhdcaaGreat
open Go.RowKit
set_option linter.unusedVariables false
set_option linter.unusedSimpArgs false

/-- The first n nodes are on the board, no two at one place. -/
def NodesOk (ns : List Nd) (n : Nat) : Prop := ∀ k, k < n → okB (atN ns k) = true ∧ ∀ i, i < k → atN ns i ≠ atN ns k

/-- The first n leads are valid, none crosses one before it, and no further node is on one. -/
def LeadsOk (ns ls : List Nd) (n : Nat) : Prop := ∀ k, k < n → leadOkB ns (atN ls k) = true ∧ (∀ i, i < k → crossB ns (atN ls i) (atN ls k) = false) ∧
  ∀ i : Nat, i < ns.length → (i : Int) ≠ (atN ls k).x → (i : Int) ≠ (atN ls k).y → onLeadB ns (atN ls k) (atN ns i) = false

instance (ns : List Nd) (n : Nat) : Decidable (NodesOk ns n) := by unfold NodesOk; infer_instance

instance (ns ls : List Nd) (n : Nat) : Decidable (LeadsOk ns ls n) := by unfold LeadsOk; infer_instance

def WinOk (ns ls : List Nd) : Prop := ((1 ≤ ns.length ∧ ns.length ≤ 12) ∧ ls.length ≤ 20) ∧ NodesOk ns ns.length ∧ LeadsOk ns ls ls.length

instance (ns ls : List Nd) : Decidable (WinOk ns ls) := by unfold WinOk; infer_instance

def winB (ns ls : List Nd) : Bool := decide (WinOk ns ls)

theorem NodesOk.zero (ns : List Nd) : NodesOk ns 0 := fun k hk => by omega

theorem NodesOk.succ {ns : List Nd} {n : Nat} (h : NodesOk ns n) (h1 : okB (atN ns n) = true) (h2 : ∀ i, i < n → atN ns i ≠ atN ns n) : NodesOk ns (n + 1) := fun k hk => by
  by_cases e : k = n
  · subst e; exact ⟨h1, h2⟩
  · exact h k (by omega)

theorem LeadsOk.zero (ns ls : List Nd) : LeadsOk ns ls 0 := fun k hk => by omega

theorem LeadsOk.succ {ns ls : List Nd} {n : Nat} (h : LeadsOk ns ls n) (h1 : leadOkB ns (atN ls n) = true) (h2 : ∀ i, i < n → crossB ns (atN ls i) (atN ls n) = false)
    (h3 : ∀ i : Nat, i < ns.length → (i : Int) ≠ (atN ls n).x → (i : Int) ≠ (atN ls n).y → onLeadB ns (atN ls n) (atN ns i) = false) : LeadsOk ns ls (n + 1) := fun k hk => by
  by_cases e : k = n
  · subst e; exact ⟨h1, h2, h3⟩
  · exact h k (by omega)

theorem winB_no {ns ls : List Nd} (h : ¬ WinOk ns ls) : winB ns ls = false := decide_eq_false h

theorem winB_yes {ns ls : List Nd} (h : WinOk ns ls) : winB ns ls = true := decide_eq_true h

theorem winB_iff (ns ls : List Nd) : winB ns ls = true ↔ WinOk ns ls := by unfold winB; simp

theorem winB_size {ns ls : List Nd} (h : ¬ ((1 ≤ ns.length ∧ ns.length ≤ 12) ∧ ls.length ≤ 20)) : winB ns ls = false := winB_no fun k => h k.1

theorem winB_node {ns ls : List Nd} {k : Nat} (hk : k < ns.length) (h : okB (atN ns k) = false) : winB ns ls = false :=
  winB_no fun w => by have := (w.2.1 k hk).1; rw [h] at this; cases this

theorem winB_twice {ns ls : List Nd} {k i : Nat} (hk : k < ns.length) (hi : i < k) (h : atN ns i = atN ns k) : winB ns ls = false :=
  winB_no fun w => (w.2.1 k hk).2 i hi h

theorem winB_lead {ns ls : List Nd} {k : Nat} (hk : k < ls.length) (h : leadOkB ns (atN ls k) = false) : winB ns ls = false :=
  winB_no fun w => by have := (w.2.2 k hk).1; rw [h] at this; cases this

theorem winB_cross {ns ls : List Nd} {k i : Nat} (hk : k < ls.length) (hi : i < k) (h : crossB ns (atN ls i) (atN ls k) = true) : winB ns ls = false :=
  winB_no fun w => by have := (w.2.2 k hk).2.1 i hi; rw [h] at this; cases this

theorem winB_on {ns ls : List Nd} {k i : Nat} (hk : k < ls.length) (hi : i < ns.length) (hx : (i : Int) ≠ (atN ls k).x) (hy : (i : Int) ≠ (atN ls k).y) (h : onLeadB ns (atN ls k) (atN ns i) = true) : winB ns ls = false :=
  winB_no fun w => by have := (w.2.2 k hk).2.2 i hi hx hy; rw [h] at this; cases this

theorem between_comm (a b c : Nd) : betweenB a b c = betweenB b a c := by
  have h1 : turnI b a c = -turnI a b c := by unfold turnI; grind
  have e1 : decide (turnI a b c = 0) = decide (turnI b a c = 0) := by rw [decide_eq_decide, h1]; omega
  have e2 : decide (a ≠ b) = decide (b ≠ a) := by rw [decide_eq_decide]; exact ne_comm
  unfold betweenB
  rw [e1, e2, Int.min_comm a.x b.x, Int.max_comm a.x b.x, Int.min_comm a.y b.y, Int.max_comm a.y b.y]
  cases okB a <;> cases okB b <;> cases okB c <;> cases decide (b ≠ a) <;> cases decide (b ≠ c) <;> cases decide (a ≠ c) <;> rfl

/-- It doesn't matter which of two lines is asked first. -/
theorem meet_comm (a b u v : Nd) : meetB a b u v = meetB u v a b := by
  have d1 : decide (a = u) = decide (u = a) := by rw [decide_eq_decide]; exact eq_comm
  have d2 : decide (b = v) = decide (v = b) := by rw [decide_eq_decide]; exact eq_comm
  have d3 : decide (a = v) = decide (v = a) := by rw [decide_eq_decide]; exact eq_comm
  have d4 : decide (b = u) = decide (u = b) := by rw [decide_eq_decide]; exact eq_comm
  rw [meet_prog, meet_prog, d1, d2, d3, d4]
  cases decide (u = a) <;> cases decide (v = b) <;> cases decide (v = a) <;> cases decide (u = b) <;> cases betweenB a b u <;> cases betweenB a b v <;> cases betweenB u v a <;> cases betweenB u v b <;> cases sepB a b u v <;> cases sepB u v a b <;> rfl

theorem cross_comm (xs : List Nd) (l m : Nd) : crossB xs l m = crossB xs m l := by
  unfold crossB
  rw [meet_comm]
  cases leadOkB xs l <;> cases leadOkB xs m <;> rfl
end Go.Proofs.YtepacoacalhdcaaGreat

namespace Go.Proofs.YtepacoacalhdcaaGreat
open Go.RowKit
set_option linter.unusedVariables false
set_option linter.unusedSimpArgs false

theorem infoInt : (Tryz.prog.info? 3).map (fun i => (i.zero, i.size, i.bytes)) = some (some (.int .i64 0), 1, 8) := by kernel_rfl

/-- The slice v reads as the ints xs; its memory is a block of its own from B on. -/
def Ints (w : World) (B : Nat) (v : Value) (xs : List Int) : Prop := w.ownsRow B 3 1 v xs.length (xs.map fun x => .int .i64 x)

theorem Ints.nil (w : World) (B : Nat) : Ints w B (.slice none 0 0) [] := World.ownsRow_nil w B _ 1

theorem Ints.made (w : World) (b B : Nat) (hb : b = w.heap.size) (hB : B ≤ b) : Ints (w.alloc (.cells #[] 3)) B (.slice (some ⟨b, 0, none⟩) 0 0) [] := by
  subst hb
  exact World.ownsRow_made _ _ _ hB (by unfold maxLen; omega) rfl

theorem Ints.own {w : World} {B : Nat} {v : Value} {xs : List Int} (h : Ints w B v xs) : ∀ k, v.ownBlock = some k → B ≤ k ∧ k < w.heap.size := World.ownsRow.lt h

theorem Ints.step {w w' : World} {B : Nat} {v : Value} {xs : List Int} (h : Ints w B v xs) (hb : Below w.heap.size w w') : Ints w' B v xs :=
  World.ownsRow.kept h (row := none) ⟨hb.os, hb.tape, hb.output, hb.size, fun k hk _ => hb.block k (by omega)⟩ (by cases v.ownBlock <;> simp)

theorem Ints.mono {w : World} {B b' : Nat} {v : Value} {xs : List Int} (h : Ints w B v xs) (hb : b' ≤ B) : Ints w b' v xs := by
  refine ⟨h.1, ?_⟩
  rcases h.2 with h0 | ⟨g, cap, cur, hv, hg, r⟩
  · exact .inl h0
  · exact .inr ⟨g, cap, cur, hv, Nat.le_trans hb hg, r⟩

theorem Ints.form {w : World} {B : Nat} {v : Value} {xs : List Int} (h : Ints w B v xs) :
    ∃ a cap, v = .slice a xs.length cap ∧ xs.length ≤ maxLen ∧ ∀ j (hj : j < xs.length), ∃ g, a = some ⟨g, 0, none⟩ ∧ B ≤ g ∧ g < w.heap.size ∧ w.cell? ⟨g, j, none⟩ = some (.int .i64 xs[j]) ∧ w.frozen? ⟨g, j, none⟩ = false := by
  have H := h
  unfold Ints at h
  rcases h.2 with ⟨rfl, h0⟩ | ⟨g, cap, cur, rfl, hb, hg, hnc, hcm, hcs, ht⟩
  · exact ⟨none, 0, by rw [h0], by rw [h0]; exact Nat.zero_le _, fun j hj => by omega⟩
  · refine ⟨some ⟨g, 0, none⟩, cap, rfl, Nat.le_trans hnc hcm, fun j hj => ⟨g, rfl, hb, lt_of_block hg, ?_, World.ownsRow.frozenAt H j⟩⟩
    rw [World.ownsRow.cellAt H j (by omega)]
    simp [hj]

theorem Ints.more {w' : World} {B : Nat} {v : Value} {xs : List Int} {x : Int} (h : w'.ownsRow B 3 1 v (xs.length + 1) (xs.map (fun x => Value.int .i64 x) ++ [.int .i64 x])) : Ints w' B v (xs ++ [x]) := by
  unfold Ints
  rw [List.length_append, List.map_append]
  exact h

/-- A block from B on turns: cells below B stay. -/
theorem Held.stepB {w W w1 : World} {B : Nat} {fs : List (Nat × Nat × Value)} (h : Held w W fs) (hs : Bs B fs) (hb : Below B W w1) (hB : w.heap.size ≤ B) : Held w w1 fs :=
  ⟨h.1.keep hs fun b o hlt => hb.cell (p := ⟨b, o, none⟩) hlt, h.2.1.mono hb.size, h.2.2.trans (hb.mono hB)⟩

theorem grown_below {B : Nat} {W W' : World} {v : Value} {xs : List Int} {o : Obj} (h : Ints W B v xs) (hB : B ≤ W.heap.size) (hg : (W.alloc o).grownBy W' v.ownBlock) : Below B W W' :=
  ((Below.refl B W).alloc hB o).grown hg (by simp; omega) fun k e => (h.own k e).1

/-- The places before n of the leads that end at node k. -/
def atL (ls : List Nd) (k : Int) : Nat → List Int
  | 0 => []
  | n + 1 => if (atN ls n).x = k ∨ (atN ls n).y = k then atL ls k n ++ [(n : Int)] else atL ls k n

theorem atL_len (ls : List Nd) (k : Int) : ∀ n, (atL ls k n).length ≤ n
  | 0 => Nat.le_refl _
  | n + 1 => by
    have := atL_len ls k n
    unfold atL
    split
    · simp; omega
    · omega

def hasB (ns ls : List Nd) (k : Int) : Bool := winB ns ls && idxB ns.length k

def atsI (ns ls : List Nd) (k : Int) : List Int := if hasB ns ls k = true then atL ls k ls.length else []

/-- What is returned: the ints xs in new memory. -/
def IntsNew (xs : List Int) (w : World) (e : Ending) (w' : World) : Prop := ∃ v, e = .returned v ∧ Ints w' w.heap.size v xs ∧ Below w.heap.size w w'

theorem other_ge {ns ls : List Nd} {i : Nat} (hw : winB ns ls = true) (hi : i < ls.length) (k : Int) : 0 ≤ otherI (atN ls i) k ↔ ((atN ls i).x = k ∨ (atN ls i).y = k) := by
  obtain ⟨a, b, e, h⟩ := leadOkB_spec (((winB_iff ns ls).1 hw).2.2 i hi).1
  rw [e]
  unfold otherI
  simp only
  by_cases h1 : k = (a : Int)
  · rw [if_pos h1]; omega
  · rw [if_neg h1]
    by_cases h2 : k = (b : Int)
    · rw [if_pos h2]; omega
    · rw [if_neg h2]; omega
end Go.Proofs.YtepacoacalhdcaaGreat

namespace Go.Proofs.YtepacoacalhdcaaGreat
open Go.RowKit
set_option linter.unusedVariables false
set_option linter.unusedSimpArgs false

/-- The n marks from k on. -/
def marksI (k n : Nat) : List Int := (List.range n).map fun i => ((k + i : Nat) : Int)

theorem marksI_length (k n : Nat) : (marksI k n).length = n := by simp [marksI]

theorem marksI_set (k0 k : Nat) (fs : List Int) (h : k < fs.length) : (marksI k0 k ++ fs.drop k).set k ((k0 + k : Nat) : Int) = marksI k0 (k + 1) ++ fs.drop (k + 1) := by
  rw [List.set_append_right _ _ (by rw [marksI_length]; exact Nat.le_refl _), marksI_length, Nat.sub_self, List.drop_eq_getElem_cons h, List.set_cons_zero]
  simp [marksI, List.range_succ]

theorem marksI_get (k0 n j : Nat) (h : j < n) : (marksI k0 n)[j]'(by rw [marksI_length]; exact h) = ((k0 + j : Nat) : Int) := by simp [marksI]

theorem eqIntS_yes {b1 b2 : Nat} {w : World} {v1 v2 : Value} {fs : List Int} (h1 : Ints w b1 v1 fs) (h2 : Ints w b2 v2 fs) :
    Calls Tryz.prog 20 #[v1, v2] w fun e w' => e = .returned (.bool true) ∧ ∃ n, w' = w.drewN n := by
  obtain ⟨a, ca, rfl, hmax, ha⟩ := h1.form
  unfold maxLen at hmax
  obtain ⟨b, cb, rfl, _, hb⟩ := h2.form
  have HA := Lib.hid ha; clear ha
  have HB := Lib.hid hb; clear hb
  clear h1 h2
  go_enter Tryz.func20, Tryz.ntmps20
  go_wp2_with fail
  go_loopw [5] (fun i wr => ∃ (k n : Nat), k ≤ fs.length ∧ i = .int .i64 k ∧ wr = w.drewN n) (fun i _ => fs.length - (intOf i).toNat)
  case atStart => exact ⟨0, 0, Nat.zero_le _, rfl, rfl⟩
  case round =>
    obtain ⟨k, n, hk, rfl, rfl⟩ := hrel
    by_cases hlt : k < fs.length
    · obtain ⟨g, rfl, _, _, hc, _⟩ := HA.out k hlt
      obtain ⟨g', rfl, _, _, hc', _⟩ := HB.out k hlt
      go_wp2_with fail
      go_quiet (fail)
      go_wp2_with fail
      refine ⟨⟨k + 1, _, by omega, by go_num, rfl⟩, by simp [intOf]; omega⟩
    · go_wp2_with fail
      go_ret
      exact ⟨rfl, n, rfl⟩

theorem markIntS_any {base : Nat} {w : World} {v : Value} {fs : List Int} (k0 : Nat) (h : Ints w base v fs) (h0 : 0 < k0) (h1 : ((k0 + fs.length : Nat) : Int) ≤ 9223372036854775807) :
    Calls Tryz.prog 23 #[v, .int .i64 k0] w fun e w' => e = .returned (.int .i64 ((k0 + fs.length : Nat) : Int)) ∧ Ints w' base v (marksI k0 fs.length) ∧ w.grownBy w' v.ownBlock := by
  have H := Lib.hid h
  unfold Ints at h
  rcases h.2 with ⟨rfl, hz⟩ | ⟨g, cap, cur, rfl, hbase, hg, hnc, hcm, hcs, ht⟩
  · obtain rfl : fs = [] := List.eq_nil_of_length_eq_zero hz
    clear h
    go_enter Tryz.func23, Tryz.ntmps23
    go_wp2_with fail
    go_loop [1, 5] (fun v i => i = .int .i64 0 ∧ v = .int .i64 k0) (fun _ _ => 0)
    case atStart => exact ⟨rfl, rfl⟩
    case round =>
      obtain ⟨rfl, rfl⟩ := hrel
      go_wp2_with fail
      go_ret
      exact ⟨by simp, Ints.nil _ _, ⟨rfl, rfl, rfl, Nat.le_refl _, fun _ _ _ => rfl⟩⟩
  · clear h hg hcs ht cur
    have hfm : fs.length ≤ 9223372036854775807 := by omega
    go_enter Tryz.func23, Tryz.ntmps23
    go_wp2_with fail
    go_loopw [1, 5] (fun v i wr => ∃ (k : Nat), k ≤ fs.length ∧ i = .int .i64 k ∧ v = .int .i64 ((k0 : Int) + k) ∧ wr.ownsRow base 3 1 (.slice (some ⟨g, 0, none⟩) fs.length cap) fs.length ((marksI k0 k ++ fs.drop k).map fun x => .int .i64 x) ∧ w.grownBy wr (some g)) (fun _ i _ => fs.length - (intOf i).toNat)
    case atStart => exact ⟨0, Nat.zero_le _, rfl, by go_num, by have := H.out; unfold Ints at this; simpa [marksI] using this, ⟨rfl, rfl, rfl, Nat.le_refl _, fun _ _ _ => rfl⟩⟩
    case round =>
      obtain ⟨k, hk, rfl, rfl, hown, hgr⟩ := hrel
      have HOWN := Lib.hid hown; clear hown
      have HGR := Lib.hid hgr; clear hgr
      have hsz := HGR.out.size
      by_cases hlt : k < fs.length
      · have ek : (k0 : Int) + (k : Int) = ((k0 + k : Nat) : Int) := by omega
        rw [ek]
        clear ek
        have hst := HOWN.out.stored k (.int .i64 ((k0 + k : Nat) : Int))
        have hc : wr.cell? ⟨g, k, none⟩ = some (.int .i64 fs[k]) := by
          rw [HOWN.out.cellAt k (by omega), List.getElem?_map, List.getElem?_append_right (by rw [marksI_length]; exact Nat.le_refl _), marksI_length, Nat.sub_self]
          simp [List.getElem?_drop, hlt]
        have hf : wr.frozen? ⟨g, k, none⟩ = false := HOWN.out.frozenAt k
        have hgr1 : w.grownBy (wr.setCell ⟨g, k, none⟩ (.int .i64 ((k0 + k : Nat) : Int))) (some g) := by
          have a := HGR.out
          refine ⟨a.os, a.tape, a.output, ?_, fun i hi hne => ?_⟩
          · rw [heap_setCell_size]; exact a.size
          · rw [Below.heap_setCell _ _ _ _ (fun e => hne (by rw [e])), a.block i hi hne]
        have HST := Lib.hid hst.1; clear hst
        have HGR1 := Lib.hid hgr1; clear hgr1
        go_wp2_with fail
        refine ⟨⟨k + 1, by omega, by go_num, by go_num, ?_, HGR1.out⟩, by simp [intOf]; omega⟩
        rw [← marksI_set k0 k fs hlt, List.map_set]
        exact HST.out
      · have ek : k = fs.length := by omega
        have EK := Lib.hid ek; clear ek
        go_wp2_with fail
        go_ret
        refine ⟨ret_int (by rw [EK.out]; omega), ?_, HGR.out⟩
        have e1 : fs.drop k = [] := List.drop_eq_nil_of_le (by rw [EK.out]; exact Nat.le_refl _)
        have := HOWN.out
        rw [e1, List.append_nil, EK.out] at this
        unfold Ints
        rw [marksI_length]
        exact this

theorem heldIntS_any {base : Nat} {w : World} {v : Value} (k0 n : Nat) (h : Ints w base v (marksI k0 n)) (h0 : 0 < k0) (h1 : ((k0 + n : Nat) : Int) ≤ 9223372036854775807) :
    Calls Tryz.prog 24 #[v, .int .i64 k0] w fun e w' => e = .returned (.int .i64 ((k0 + n : Nat) : Int)) ∧ ∃ m, w' = w.drewN m := by
  obtain ⟨a, cap, rfl, hmax, ha⟩ := h.form
  rw [marksI_length] at *
  have HA := Lib.hid ha; clear ha
  clear h
  go_enter Tryz.func24, Tryz.ntmps24
  go_wp2_with fail
  go_loopw [1, 5] (fun v i wr => ∃ (k m : Nat), k ≤ n ∧ i = .int .i64 k ∧ v = .int .i64 ((k0 : Int) + k) ∧ wr = w.drewN m) (fun _ i _ => n - (intOf i).toNat)
  case atStart => exact ⟨0, 0, Nat.zero_le _, rfl, by go_num, rfl⟩
  case round =>
    obtain ⟨k, m, hk, rfl, rfl, rfl⟩ := hrel
    by_cases hlt : k < n
    · obtain ⟨g, rfl, _, hgl, hc, _⟩ := HA.out k (by rw [marksI_length]; exact hlt)
      rw [marksI_get k0 n k hlt, show ((k0 + k : Nat) : Int) = (k0 : Int) + k by omega] at hc
      have q0 : (0 : Int) ≤ (k : Int) := by omega
      have q1 : (k : Int) < (n : Int) := by omega
      go_wp2_with fail
      refine ⟨⟨k + 1, _, by omega, by go_num, by go_num, rfl⟩, by simp [intOf]; omega⟩
    · have ek : k = n := by omega
      have EK := Lib.hid ek; clear ek
      go_wp2_with fail
      go_ret
      exact ⟨ret_int (by rw [EK.out]; omega), m, rfl⟩
end Go.Proofs.YtepacoacalhdcaaGreat

namespace Go.Proofs.YtepacoacalhdcaaGreat
open Go.RowKit
set_option linter.unusedVariables false
set_option linter.unusedSimpArgs false

/-- From w to w' only blocks from Lo on and before Hi have turned. -/
structure Turn (Lo Hi : Nat) (w w' : World) : Prop where
  os : w'.os = w.os
  tape : w'.tape = w.tape
  output : w'.output = w.output
  size : w.heap.size ≤ w'.heap.size
  block : ∀ i, i < w.heap.size → (i < Lo ∨ Hi ≤ i) → w'.heap[i]? = w.heap[i]?

theorem Turn.of_below {Lo Hi : Nat} {w w' : World} (h : Below w.heap.size w w') : Turn Lo Hi w w' := ⟨h.os, h.tape, h.output, h.size, fun i hi _ => h.block i hi⟩

theorem Turn.trans {Lo Hi : Nat} {w w1 w2 : World} (a : Turn Lo Hi w w1) (b : Turn Lo Hi w1 w2) : Turn Lo Hi w w2 :=
  ⟨b.os.trans a.os, b.tape.trans a.tape, b.output.trans a.output, Nat.le_trans a.size b.size, fun i hi h => (b.block i (Nat.lt_of_lt_of_le hi a.size) h).trans (a.block i hi h)⟩

theorem Turn.of_grown {Lo Hi : Nat} {w w' : World} {row : Option Nat} (h : w.grownBy w' row) (hr : ∀ g, row = some g → Lo ≤ g ∧ g < Hi) : Turn Lo Hi w w' :=
  ⟨h.os, h.tape, h.output, h.size, fun i hi ho => h.block i hi (fun e => by have := hr i e.symm; omega)⟩

theorem Ints.turn {Lo Hi B : Nat} {w w' : World} {v : Value} {xs : List Int} (h : Ints w B v xs) (t : Turn Lo Hi w w') (hk : ∀ k, v.ownBlock = some k → k < Lo ∨ Hi ≤ k) : Ints w' B v xs := by
  refine ⟨h.1, ?_⟩
  rcases h.2 with h0 | ⟨g, cap, cur, hv, hb, hg, r⟩
  · exact .inl h0
  · exact .inr ⟨g, cap, cur, hv, hb, (t.block g (lt_of_block hg) (hk g (by rw [hv]; rfl))).trans hg, r⟩

def Out (Lo Hi : Nat) : List (Nat × Nat × Value) → Prop
  | [] => True
  | (b, _, _) :: fs => (b < Lo ∨ Hi ≤ b) ∧ Out Lo Hi fs

theorem Cs.turn {Lo Hi : Nat} {W W' : World} (t : Turn Lo Hi W W') : ∀ {fs : List (Nat × Nat × Value)}, Out Lo Hi fs → Bs W.heap.size fs → Cs W fs → Cs W' fs
  | [], _, _, _ => trivial
  | (_, _, _) :: _, ho, hb, hc => ⟨(World.cell?_of_block (t.block _ hb.1 ho.1)).trans hc.1, Cs.turn t ho.2 hb.2 hc.2⟩

theorem Held.turn {Lo Hi : Nat} {w W W' : World} {fs : List (Nat × Nat × Value)} (h : Held w W fs) (t : Turn Lo Hi W W') (ho : Out Lo Hi fs) (hLo : w.heap.size ≤ Lo) : Held w W' fs :=
  ⟨h.1.turn t ho h.2.1, h.2.1.mono t.size, h.2.2.trans ⟨t.os, t.tape, t.output, t.size, fun k hk => t.block k (by have := h.2.2.size; omega) (.inl (by omega))⟩⟩

theorem Mine.grown {w w' : World} {B : Nat} {T : TypeId} {v : Value} {xs : List Nd} {row : Option Nat} (h : Mine w B T v xs) (hg : w.grownBy w' row) (hr : ∀ g, row = some g → g < B) : Mine w' B T v xs := by
  obtain ⟨A, c, n, rfl, hl, hc, hx⟩ := h
  refine ⟨A, c, n, rfl, hl, hc, fun h0 => ?_⟩
  obtain ⟨g, rfl, hB, hn, hh⟩ := hx h0
  exact ⟨g, rfl, hB, hn, hh.keep (hg.block g hh.lt fun e => by have := hr g e.symm; omega)⟩

/-- A window whose memory lies in the blocks from Lo on and before Hi. -/
def WinOwn (w : World) (Lo Hi : Nat) (v1 v2 : Value) (ns ls : List Nd) : Prop :=
  ∃ B, Mine w Lo 115 v1 ns ∧ Lo ≤ B ∧ (∀ g c n, v1 = .slice (some ⟨g, 0, none⟩) n c → 0 < n → g < B) ∧ Mine w B 151 v2 ls ∧
    (∀ g c n, v1 = .slice (some ⟨g, 0, none⟩) n c → 0 < n → g < Hi) ∧ (∀ g c n, v2 = .slice (some ⟨g, 0, none⟩) n c → 0 < n → g < Hi)

theorem Mine.top {w : World} {B : Nat} {T : TypeId} {v : Value} {xs : List Nd} (h : Mine w B T v xs) : ∀ g c n, v = .slice (some ⟨g, 0, none⟩) n c → 0 < n → g < w.heap.size := by
  obtain ⟨A, c, n, rfl, hl, hc, hx⟩ := h
  intro g c' n' e h0
  injection e with e1 e2 e3
  obtain ⟨g', e', _, _, hh⟩ := hx (by omega)
  rw [e1] at e'
  injection e' with e'
  injection e' with e'
  rw [e']; exact hh.lt

theorem WinOwn.step {w w' : World} {Lo Hi : Nat} {v1 v2 : Value} {ns ls : List Nd} (h : WinOwn w Lo Hi v1 v2 ns ls) (hb : Below w.heap.size w w') : WinOwn w' Lo Hi v1 v2 ns ls := by
  obtain ⟨B, h1, h2, h3, h4, h5⟩ := h
  exact ⟨B, h1.below hb, h2, h3, h4.below hb, h5⟩

theorem markWindow_any {w : World} {Lo Hi : Nat} {v1 v2 : Value} {ns ls : List Nd} (k0 : Nat) (h : WinOwn w Lo Hi v1 v2 ns ls) (hHi : Hi ≤ w.heap.size) (h1 : ns.length ≤ 1048576) (h2 : ls.length ≤ 1048576) (hk : k0 ≤ 1000) :
    Calls Tryz.prog 22 #[.agg #[v1, v2], .int .i64 k0] w fun e w' => e = .returned (.int .i64 ((k0 + 2 * ns.length + 2 * ls.length : Nat) : Int)) ∧ Turn Lo Hi w w' := by
  obtain ⟨B, hm1, hLB, hs, hm2, ht1, ht2⟩ := h
  obtain ⟨A1, c1, rfl⟩ := hm1.form
  obtain ⟨A2, c2, rfl⟩ := hm2.form
  have b0 : Below w.heap.size w (w.alloc (.cells #[.slice A1 ns.length c1, .slice A2 ls.length c2] 32)) := (Below.refl _ _).alloc (Nat.le_refl _) _
  have M1 := Lib.hid (hm1.below b0)
  have M2 := Lib.hid (hm2.below b0)
  have T0 := Lib.hid (Turn.of_below (Lo := Lo) (Hi := Hi) b0)
  have X0 := Lib.hid (heap_alloc_new w (.cells #[.slice A1 ns.length c1, .slice A2 ls.length c2] 32))
  have HS := Lib.hid hs
  have HT := Lib.hid (And.intro ht1 ht2)
  clear hm1 hm2 b0 hs ht1 ht2
  go_enter Tryz.func22, Tryz.ntmps22
  go_wp2_with fail
  refine (markNodeS_any k0 M1.out h1 (by omega)).mono ?_
  rintro e w1 ⟨rfl, row, hg, hr⟩
  have M3 := Lib.hid (M2.out.grown hg fun g e => by obtain ⟨_, _, hp, c, he⟩ := hr g e; exact HS.out g c _ he hp)
  have T1 := Lib.hid (T0.out.trans (Turn.of_grown hg fun g e => by obtain ⟨hb, _, hp, c, he⟩ := hr g e; exact ⟨hb, HT.out.1 g c _ he hp⟩))
  have X1 := (hg.block w.heap.size (by simp) (fun e => by obtain ⟨hb, _, hp, c, he⟩ := hr _ e.symm; have := HT.out.1 _ c _ he hp; omega)).trans X0.out
  have x1 : w1.cell? ⟨w.heap.size, 1, none⟩ = some (.slice A2 ls.length c2) := by rw [cell_of_cells X1]; rfl
  clear hg hr X1
  go_wp2_with fail
  refine (markLeadS_any (k0 + 2 * ns.length) M3.out h2 (by omega)).mono ?_
  rintro e w2 ⟨rfl, row2, hg, hr⟩
  have T2 := Lib.hid (T1.out.trans (Turn.of_grown hg fun g e => by obtain ⟨hb, _, hp, c, he⟩ := hr g e; exact ⟨Nat.le_trans hLB hb, HT.out.2 g c _ he hp⟩))
  clear hg hr
  go_wp2_with fail
  go_ret
  exact ⟨rfl, T2.out⟩

end Go.Proofs.YtepacoacalhdcaaGreat
