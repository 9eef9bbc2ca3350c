/-
  Several texts in one: a claim has at most 60 files.
-/
import Derived.Test.YtmcbbjobjogkmabGreatG2
import Derived.Test.YtmcbbjobjogkmabGreatG1
import Derived.BigQuiet
import Derived.Test.YtmcbbjobjogkmabGreatG12
import Derived.Test.YtmcbbjobjogkmabGreatTurns
import Derived.Test.YtmcbbjobjogkmabGreatG6
import Derived.BigRegion
import Derived.Lib.MinMax
import Derived.Test.YtmcbbjobjogkmabGreatG3
import Derived.Test.YtmcbbjobjogkmabGreatDet2
import Derived.Test.YtmcbbjobjogkmabGreatGlsT

namespace Go.Proofs.YtmcbbjobjogkmabGreat
open Go.RowKit
set_option linter.unusedVariables false
set_option linter.unusedSimpArgs false

def cmpZ (a b : Int) : Int := if a < b then -1 else if b < a then 1 else 0

def orZ (a b c : Int) : Int := if a ≠ 0 then a else if b ≠ 0 then b else c

theorem isNaN_Z (a : Int) (w : World) : Calls Tryz.prog 131 #[.int .i64 a] w (BoolIs false w) := by
  go_enter Tryz.func131, Tryz.ntmps131
  go_wp2_with fail
  go_ret
  exact ⟨by simp, Below.refl _ _⟩

theorem freeR_threeZ {w : World} {r : Result Next} {a b c : Int} (h : r = .ok (.value (.slice (some ⟨w.heap.size, 0, none⟩) 3 3)) (w.alloc (.cells #[.int .i64 a, .int .i64 b, .int .i64 c] 3))) :
    FreeR Tryz.prog (fun v W => Seq W v [a, b, c]) w r := by
  subst h
  refine ⟨⟨_, _, rfl, Nat.le_refl _, by unfold maxLen; decide, fun _ => ⟨w.heap.size, 0, rfl, by simp, fun k hk => ?_⟩⟩, (Below.refl _ _).alloc (Nat.le_refl _) _⟩
  have hb := heap_alloc_new w (.cells #[.int .i64 a, .int .i64 b, .int .i64 c] 3)
  match k, hk with
  | 0, _ => exact (cell_of_cells (k := 0) hb).trans rfl
  | 1, _ => exact (cell_of_cells (k := 1) hb).trans rfl
  | 2, _ => exact (cell_of_cells (k := 2) hb).trans rfl
  | k + 3, hk => exact absurd hk (by simp)
end Go.Proofs.YtmcbbjobjogkmabGreat

namespace Go.Proofs.YtmcbbjobjogkmabGreat
open Go.RowKit
set_option linter.unusedVariables false
set_option linter.unusedSimpArgs false

/-- A box, grown by a node. -/
def bxF (n : Nd) (b : Nd × Nd) : Nd × Nd := (⟨min b.1.x n.x, min b.1.y n.y⟩, ⟨max b.2.x n.x, max b.2.y n.y⟩)

def bxL (ns : List Nd) (xs : List Int) : Nat → Nd × Nd
  | 0 => (⟨20, 20⟩, ⟨0, 0⟩)
  | n + 1 => bxF (atN ns (atZ xs n).toNat) (bxL ns xs n)

theorem bxL_succ (ns : List Nd) (xs : List Int) (n : Nat) : bxL ns xs (n + 1) = bxF (atN ns (atZ xs n).toNat) (bxL ns xs n) := rfl

def bxS (ns : List Nd) (xs : List Int) : Nat → Nd × Nd
  | 0 => (atN ns (atZ xs 0).toNat, atN ns (atZ xs 0).toNat)
  | n + 1 => bxF (atN ns (atZ xs n).toNat) (bxS ns xs n)

theorem bxS_succ (ns : List Nd) (xs : List Int) (n : Nat) : bxS ns xs (n + 1) = bxF (atN ns (atZ xs n).toNat) (bxS ns xs n) := rfl

theorem bx_same {ns : List Nd} {xs : List Int} (hx : NodesOf ns xs) (h0 : 0 < xs.length) : ∀ n, n ≤ xs.length →
    bxS ns xs n = (⟨min (bxL ns xs n).1.x (atN ns (atZ xs 0).toNat).x, min (bxL ns xs n).1.y (atN ns (atZ xs 0).toNat).y⟩, ⟨max (bxL ns xs n).2.x (atN ns (atZ xs 0).toNat).x, max (bxL ns xs n).2.y (atN ns (atZ xs 0).toNat).y⟩)
  | 0, _ => by
    obtain ⟨a, ha, _, ho⟩ := hx 0 h0
    rw [← Int.toNat_natCast a, ← ha] at ho
    obtain ⟨h1, h2, h3, h4⟩ := area_okb ho
    unfold bxS bxL
    generalize atN ns (atZ xs 0).toNat = p at *
    obtain ⟨px, py⟩ := p
    simp only at *
    rw [show min 20 px = px by omega, show min 20 py = py by omega, show max 0 px = px by omega, show max 0 py = py by omega]
  | n + 1, h => by
    rw [bxS_succ, bxL_succ, bx_same hx h0 n (by omega)]
    generalize bxL ns xs n = b
    generalize atN ns (atZ xs 0).toNat = p
    generalize atN ns (atZ xs n).toNat = q
    unfold bxF
    simp only
    congr 2 <;> omega

theorem bx_below (ns : List Nd) (xs : List Int) {j : Nat} : ∀ n, j < n → (bxL ns xs n).1.x ≤ (atN ns (atZ xs j).toNat).x ∧ (bxL ns xs n).1.y ≤ (atN ns (atZ xs j).toNat).y ∧ (atN ns (atZ xs j).toNat).x ≤ (bxL ns xs n).2.x ∧ (atN ns (atZ xs j).toNat).y ≤ (bxL ns xs n).2.y
  | n + 1, h => by
    rw [bxL_succ]
    by_cases e : j = n
    · subst e
      unfold bxF
      simp only
      omega
    · have := bx_below ns xs n (j := j) (by omega)
      unfold bxF
      simp only
      omega

theorem bx_eq {ns : List Nd} {xs : List Int} (hx : NodesOf ns xs) (h0 : 0 < xs.length) : bxS ns xs xs.length = bxL ns xs xs.length := by
  rw [bx_same hx h0 _ (Nat.le_refl _)]
  obtain ⟨h1, h2, h3, h4⟩ := bx_below ns xs xs.length h0
  generalize bxL ns xs xs.length = b at *
  generalize atN ns (atZ xs 0).toNat = p at *
  obtain ⟨⟨a, b⟩, ⟨c, d⟩⟩ := b
  simp only at *
  rw [show min a p.x = a by omega, show min b p.y = b by omega, show max c p.x = c by omega, show max d p.y = d by omega]

noncomputable def boxW (ns ls : List Nd) (f : Int) : Nd × Nd := if idxB (wF ns ls).length f = true then bxL ns (paneW ns ls f) (paneW ns ls f).length else (⟨0, 0⟩, ⟨0, 0⟩)

theorem pane_nodesB (ns ls : List Nd) (f : Int) : NodesOf ns (paneW ns ls f) := by
  unfold paneW
  by_cases h : idxB (wF ns ls).length f = true
  · rw [if_pos h]
    obtain ⟨k, rfl, hk⟩ := idx_nat h
    obtain ⟨hw, hd, _⟩ := (wF_ok ns ls).2 k hk
    exact bord_nodes hw hd
  · rw [if_neg h]
    intro i hi
    simp at hi

theorem boxW_end (ns ls : List Nd) (f : Int) (h : ¬ (paneW ns ls f).length = 0) : boxW ns ls f = bxS ns (paneW ns ls f) (paneW ns ls f).length := by
  have hf : idxB (wF ns ls).length f = true := by
    by_cases hf : idxB (wF ns ls).length f = true
    · exact hf
    · exfalso; apply h; unfold paneW; rw [if_neg hf]; rfl
  unfold boxW
  rw [if_pos hf, bx_eq (pane_nodesB ns ls f) (by omega)]

theorem boxW_nil (ns ls : List Nd) (f : Int) (h : (paneW ns ls f).length = 0) : boxW ns ls f = (⟨0, 0⟩, ⟨0, 0⟩) := by
  unfold boxW
  by_cases hf : idxB (wF ns ls).length f = true
  · exfalso
    unfold paneW at h
    rw [if_pos hf, bord_len] at h
    obtain ⟨k, rfl, hk⟩ := idx_nat hf
    have := (row_len hk).2
    simp only [Int.toNat_natCast] at h
    omega
  · rw [if_neg hf]

/-- Two nodes are returned. -/
def BoxIs (b : Nd × Nd) (w : World) (e : Ending) (w' : World) : Prop := e = .returned (.tuple #[.agg #[.int .i64 b.1.x, .int .i64 b.1.y], .agg #[.int .i64 b.2.x, .int .i64 b.2.y]]) ∧ Below w.heap.size w w'

/-- How the faces f and h stand to each other, by their boxes. -/
def rcmp (bx : Int → Nd × Nd) (f h : Int) : Int := orZ (cmpZ (bx h).2.y (bx f).2.y) (cmpZ (bx f).1.x (bx h).1.x) (cmpZ f h)

def ltR (bx : Int → Nd × Nd) (f h : Int) : Bool := decide (rcmp bx f h < 0)

theorem ltR_iff (bx : Int → Nd × Nd) {k d : Int} (h : d < k) : ltR bx k d = true ↔ (bx d).2.y < (bx k).2.y ∨ (bx d).2.y = (bx k).2.y ∧ (bx k).1.x < (bx d).1.x := by
  unfold ltR rcmp orZ cmpZ
  rw [decide_eq_true_iff]
  split <;> split <;> (try split) <;> (try split) <;> (try split) <;> (try split) <;> omega

theorem g_box {ns ls : List Nd} {k : Nat} (h : k < (wF ns ls).length) : bxL (gN ns ls) (bord (gL ns ls) (atR (wF ns ls) k)) (bord (gL ns ls) (atR (wF ns ls) k)).length = boxW ns ls k := by
  unfold boxW paneW
  rw [if_pos ((idxB_iff _ _).2 (by omega)), if_pos ((idxB_iff _ _).2 (by omega)), g_bord h, Int.toNat_natCast]
  unfold gN
  rw [if_pos (wF_row h).1]

noncomputable def readL (ns ls : List Nd) : List Int := sortL (ltR (boxW ns ls)) (innW ns ls)

theorem readL_len (ns ls : List Nd) : (readL ns ls).length = (innW ns ls).length := sortL_len _ _ _ rfl

theorem readL_twelve (ns ls : List Nd) : (readL ns ls).length ≤ 12 := by
  rw [readL_len]
  exact inn_twelve ns ls
end Go.Proofs.YtmcbbjobjogkmabGreat

namespace Go.Proofs.YtmcbbjobjogkmabGreat
open Go.RowKit
set_option linter.unusedVariables false
set_option linter.unusedSimpArgs false

/-- Block b holds the node n. -/
def NB (W : World) (b : Nat) (n : Nd) : Prop := W.heap[b]? = some (.cells #[.int .i64 n.x, .int .i64 n.y] 83)

section

variable {W W' : World} {b g : Nat} {n : Nd}

theorem NB.lt (h : NB W b n) : b < W.heap.size := lt_of_block h

theorem NB.cells (h : NB W b n) : W.cell? ⟨b, 0, none⟩ = some (.int .i64 n.x) ∧ W.cell? ⟨b, 1, none⟩ = some (.int .i64 n.y) ∧ W.frozen? ⟨b, 0, none⟩ = false ∧ W.frozen? ⟨b, 1, none⟩ = false := by
  unfold NB at h
  refine ⟨(cell_of_cells (k := 0) h).trans rfl, (cell_of_cells (k := 1) h).trans rfl, ?_, ?_⟩ <;> simp [World.frozen?, h]

theorem NB.new (W : World) (b : Nat) (hb : b = W.heap.size) (n : Nd) : NB (W.alloc (.cells #[.int .i64 n.x, .int .i64 n.y] 83)) b n := by subst hb; exact heap_alloc_new W _

theorem NB.step (h : NB W b n) (hb : Below W.heap.size W W') : NB W' b n := (hb.block _ h.lt).trans h

theorem NB.put (h : NB W b n) (x y : Int) : NB ((W.setCell ⟨b, 0, none⟩ (.int .i64 x)).setCell ⟨b, 1, none⟩ (.int .i64 y)) b ⟨x, y⟩ := by
  have m0 := heap_setCell_self (k := 0) h (.int .i64 x)
  have m1 := heap_setCell_self (k := 1) m0 (.int .i64 y)
  exact m1

theorem NB.far (h : NB W b n) (hne : b ≠ g) (x y : Int) : NB ((W.setCell ⟨g, 0, none⟩ (.int .i64 x)).setCell ⟨g, 1, none⟩ (.int .i64 y)) b n :=
  (Below.heap_setCell _ _ _ _ hne).trans ((Below.heap_setCell _ _ _ _ hne).trans h)

end

theorem NB.of_new {W0 W : World} {b k : Nat} {x y : Int} (h : NewB W0 83 k (.pointer (some ⟨b, 0, none⟩)) W) (hk : k = 2) (c0 : W.cell? ⟨b, 0, none⟩ = some (.int .i64 x)) (c1 : W.cell? ⟨b, 1, none⟩ = some (.int .i64 y)) : NB W b ⟨x, y⟩ := by
  subst hk
  obtain ⟨b', cs, e, _, hc, hs⟩ := h
  simp only [Value.pointer.injEq, Option.some.injEq, Addr.mk.injEq] at e
  obtain ⟨rfl, -, -⟩ := e
  have d0 := cell_of_cells (k := 0) hc
  have d1 := cell_of_cells (k := 1) hc
  rw [c0] at d0
  rw [c1] at d1
  unfold NB
  rw [hc]
  congr 2
  obtain ⟨l⟩ := cs
  match l, hs with
  | [u, v], _ =>
    simp at d0 d1
    subst d0; subst d1
    rfl

/-- The result's cells (blocks r, r + 1) still 0; the corners so far. -/
structure Bx (w W : World) (r b c : Nat) (p q : Nd) : Prop where
  r0 : NB W r ⟨0, 0⟩
  r1 : NB W (r + 1) ⟨0, 0⟩
  lo : NB W b p
  hi : NB W c q
  o1 : r + 1 < b
  o2 : b < c
  o3 : w.heap.size ≤ r

section

variable {w W W' : World} {r b c : Nat} {p q : Nd}

theorem Bx.step (h : Bx w W r b c p q) (hb : Below W.heap.size W W') : Bx w W' r b c p q := ⟨h.r0.step hb, h.r1.step hb, h.lo.step hb, h.hi.step hb, h.o1, h.o2, h.o3⟩

theorem Bx.putL (h : Bx w W r b c p q) (x y : Int) : Bx w ((W.setCell ⟨b, 0, none⟩ (.int .i64 x)).setCell ⟨b, 1, none⟩ (.int .i64 y)) r b c ⟨x, y⟩ q :=
  ⟨h.r0.far (by have := h.o1; omega) x y, h.r1.far (by have := h.o1; omega) x y, h.lo.put x y, h.hi.far (by have := h.o2; omega) x y, h.o1, h.o2, h.o3⟩

theorem Bx.putH (h : Bx w W r b c p q) (x y : Int) : Bx w ((W.setCell ⟨c, 0, none⟩ (.int .i64 x)).setCell ⟨c, 1, none⟩ (.int .i64 y)) r b c p ⟨x, y⟩ :=
  ⟨h.r0.far (by have := h.o1; have := h.o2; omega) x y, h.r1.far (by have := h.o1; have := h.o2; omega) x y, h.lo.far (by have := h.o2; omega) x y, h.hi.put x y, h.o1, h.o2, h.o3⟩

end

theorem Bx.start {w wG : World} (s : Nat) (hs : s = wG.heap.size) (hw : w.heap.size ≤ s) (p q : Nd) : Bx w ((((wG.alloc (.cells #[.int .i64 0, .int .i64 0] 83)).alloc (.cells #[.int .i64 0, .int .i64 0] 83)).alloc (.cells #[.int .i64 p.x, .int .i64 p.y] 83)).alloc (.cells #[.int .i64 q.x, .int .i64 q.y] 83)) s (s + 1 + 1) (s + 1 + 1 + 1) p q :=
  ⟨(((NB.new _ _ hs ⟨0, 0⟩).step (below_alloc _ _)).step (below_alloc _ _)).step (below_alloc _ _), ((NB.new _ _ (by simp [hs]) ⟨0, 0⟩).step (below_alloc _ _)).step (below_alloc _ _), (NB.new _ _ (by simp [hs]) p).step (below_alloc _ _), NB.new _ _ (by simp [hs]) q, by omega, by omega, hw⟩

theorem Held.set2 {w W : World} {fs : List (Nat × Nat × Value)} {g : Nat} (h : Held w W fs) (hs : Bs g fs) (hg : w.heap.size ≤ g) (x y : Value) : Held w ((W.setCell ⟨g, 0, none⟩ x).setCell ⟨g, 1, none⟩ y) fs :=
  (h.setB (j := 0) (x := x) hs (Nat.le_refl g) hg).setB (j := 1) (x := y) hs (Nat.le_refl g) hg

theorem Keeps.set2 {B g : Nat} {w W : World} (h : Keeps B w W) (hg : g < B) (x y : Value) : Keeps B w ((W.setCell ⟨g, 0, none⟩ x).setCell ⟨g, 1, none⟩ y) :=
  ⟨by simpa using h.1, fun k h1 h2 => (Below.heap_setCell _ _ _ _ (by show k ≠ g; omega)).trans ((Below.heap_setCell _ _ _ _ (by show k ≠ g; omega)).trans (h.2 k h1 h2))⟩

end Go.Proofs.YtmcbbjobjogkmabGreat

namespace Go.Proofs.YtmcbbjobjogkmabGreat
open Go.RowKit
set_option linter.unusedVariables false
set_option linter.unusedSimpArgs false

end Go.Proofs.YtmcbbjobjogkmabGreat

namespace Go.Proofs.YtmcbbjobjogkmabGreat
open Go.RowKit
set_option linter.unusedVariables false
set_option linter.unusedSimpArgs false

/-- The box of face f of the rows rs. -/
def bxR (ns ls : List Nd) (rs : List (List Int)) (f : Int) : Nd × Nd := bxL ns (bord ls (atR rs f.toNat)) (bord ls (atR rs f.toNat)).length

/-- The faces other than the wall around, in memory of its own that is not nil. -/
def SomeInts (xs : List Int) (w : World) (e : Ending) (w' : World) : Prop := ∃ g c, e = .returned (.slice (some ⟨g, 0, none⟩) xs.length c) ∧ Ints w' w.heap.size (.slice (some ⟨g, 0, none⟩) xs.length c) xs ∧ Below w.heap.size w w'

theorem insM_congr {lt lt' : Int → Int → Bool} {d : Int} {l : List Int} (h : ∀ y, y ∈ l → lt d y = lt' d y) : ∀ m, m ≤ l.length → insM lt d l m = insM lt' d l m
  | 0, _ => rfl
  | m + 1, hm => by
    have e : lt d (atZ l m) = lt' d (atZ l m) := h _ (by rw [← atZ_get (show m < l.length by omega)]; exact List.getElem_mem _)
    unfold insM
    rw [e, insM_congr h m (by omega)]

theorem sortL_congr {lt lt' : Int → Int → Bool} : ∀ (n : Nat) (xs : List Int), xs.length = n → (∀ x y, x ∈ xs → y ∈ xs → lt x y = lt' x y) → sortL lt xs = sortL lt' xs
  | 0, xs, h, _ => by obtain rfl := List.eq_nil_of_length_eq_zero h; rfl
  | n + 1, xs, h, hc => by
    have e : xs = xs.take n ++ [atZ xs n] := by
      rw [← atZ_get (by omega), ← List.take_succ_eq_append_getElem (by omega), List.take_of_length_le (by omega)]
    have ht : ∀ x, x ∈ xs.take n → x ∈ xs := fun x hx => List.mem_of_mem_take hx
    have hn : atZ xs n ∈ xs := by rw [← atZ_get (show n < xs.length by omega)]; exact List.getElem_mem _
    have ih := sortL_congr (lt := lt) (lt' := lt') n (xs.take n) (by simp; omega) fun x y hx hy => hc x y (ht x hx) (ht y hy)
    rw [e, sortL_more, sortL_more, ih]
    unfold insL
    exact insM_congr (fun y hy => hc _ _ hn (ht y (sortL_mem _ _ _ rfl y hy))) _ (Nat.le_refl _)

theorem read_congr (ns ls : List Nd) : sortL (ltR (bxR (gN ns ls) (gL ns ls) (wF ns ls))) (innW ns ls) = readL ns ls := by
  unfold readL
  refine sortL_congr _ _ rfl fun x y hx hy => ?_
  obtain ⟨f, hf, hf2, _⟩ := (fltN_mem (innP (outW ns ls)) (wF ns ls).length x).1 hx
  obtain ⟨h, hh, hh2, _⟩ := (fltN_mem (innP (outW ns ls)) (wF ns ls).length y).1 hy
  subst hf; subst hh
  have e1 : bxR (gN ns ls) (gL ns ls) (wF ns ls) f = boxW ns ls f := g_box hf2
  have e2 : bxR (gN ns ls) (gL ns ls) (wF ns ls) h = boxW ns ls h := g_box hh2
  unfold ltR rcmp
  rw [e1, e2]

end Go.Proofs.YtmcbbjobjogkmabGreat

namespace Go.Proofs.YtmcbbjobjogkmabGreat
open Go.RowKit
set_option linter.unusedVariables false
set_option linter.unusedSimpArgs false

/-- The first n faces in reading order. -/
noncomputable def rdS (ns ls : List Nd) (n : Nat) : List Int := sortL (ltR (boxW ns ls)) (fltN (innP (outW ns ls)) n)

theorem rdS_succ (ns ls : List Nd) (n : Nat) : rdS ns ls (n + 1) = if innP (outW ns ls) n = true then insL (ltR (boxW ns ls)) n (rdS ns ls n) else rdS ns ls n := by
  unfold rdS
  rw [fltN_succ]
  by_cases h : innP (outW ns ls) n = true
  · rw [if_pos h, if_pos h, sortL_more]
  · rw [if_neg h, if_neg h]

theorem rdS_len (ns ls : List Nd) (n : Nat) : (rdS ns ls n).length ≤ n := by
  unfold rdS
  rw [sortL_len _ _ _ rfl]
  exact fltN_len _ _

theorem rdS_at (ns ls : List Nd) {n q : Nat} (h : q < (rdS ns ls n).length) : ∃ d : Nat, atZ (rdS ns ls n) q = d ∧ d < n := by
  have hm : atZ (rdS ns ls n) q ∈ rdS ns ls n := by rw [← atZ_get h]; exact List.getElem_mem h
  obtain ⟨d, e, hd, _⟩ := (fltN_mem _ _ _).1 (sortL_mem _ _ _ rfl _ hm)
  exact ⟨d, e, hd⟩

theorem NB.grown {W W' : World} {b : Nat} {n : Nd} {row : Option Nat} (h : NB W b n) (hg : W.grownBy W' row) (hr : row ≠ some b) : NB W' b n := (hg.block _ h.lt fun e => hr e.symm).trans h

theorem NB.apart {W : World} {b g B k c : Nat} {n : Nd} {xs : List Int} (h : NB W b n) (hi : Ints W B (.slice (some ⟨g, 0, none⟩) k c) xs) : b ≠ g := by
  rintro rfl
  obtain ⟨cur, hc⟩ := hi.typed rfl
  unfold NB at h
  rw [h] at hc
  simp at hc

theorem NB.setFar {W : World} {b g j : Nat} {n : Nd} {x : Value} (h : NB W b n) (hne : b ≠ g) : NB (W.setCell ⟨g, j, none⟩ x) b n := (Below.heap_setCell _ _ _ _ hne).trans h

theorem NB.farV {W : World} {b B : Nat} {n : Nd} {v : Value} {xs : List Int} (h : NB W b n) (hi : Ints W B v xs) : v.ownBlock ≠ some b := by
  intro e
  obtain ⟨cur, hc⟩ := hi.typed e
  unfold NB at h
  rw [h] at hc
  simp at hc

end Go.Proofs.YtmcbbjobjogkmabGreat

namespace Go.Proofs.YtmcbbjobjogkmabGreat
open Go.RowKit
set_option linter.unusedVariables false
set_option linter.unusedSimpArgs false

/-- The numbers 1 to n. -/
def numK (n : Nat) : List Int := (List.range n).map fun k : Nat => (k : Int) + 1

theorem numK_succ (n : Nat) : numK (n + 1) = numK n ++ [(n : Int) + 1] := by simp [numK, List.range_succ]

theorem numK_len (n : Nat) : (numK n).length = n := by simp [numK]

theorem numK_at {n k : Nat} (h : k < n) : atZ (numK n) k = (k : Int) + 1 := by simp [atZ, numK, List.getD, h]

section

variable {W W' : World} {b g : Nat} {x y : Value}

end

/-- What numbers returns: the faces and their numbers. -/
def NumsNew (xs : List Int) (w : World) (e : Ending) (w' : World) : Prop := ∃ vf vk, e = .returned (.agg #[vf, vk]) ∧ Ints w' w.heap.size vf xs ∧ Ints w' w.heap.size vk (numK xs.length) ∧ Below w.heap.size w w'

/-- The first place of x, or -1. -/
def plc (xs : List Int) (x : Int) : Int := firstI (fun k => atZ xs k == x) xs.length

theorem plc_hit {xs : List Int} {x : Int} {m : Nat} (hm : m < xs.length) (h : atZ xs m = x) (hb : ∀ j, j < m → atZ xs j ≠ x) : plc xs x = (m : Int) := firstI_at (fun j hj => by simpa using hb j hj) (by simpa using h) _ hm

theorem plc_miss {xs : List Int} {x : Int} (hb : ∀ j, j < xs.length → atZ xs j ≠ x) : plc xs x = -1 := firstI_none _ fun j hj => by simpa using hb j hj

theorem plc_cases (xs : List Int) (x : Int) : (plc xs x = -1 ∧ ∀ j, j < xs.length → atZ xs j ≠ x) ∨ ∃ m : Nat, plc xs x = (m : Int) ∧ m < xs.length ∧ atZ xs m = x := by
  rcases firstI_cases (fun k => atZ xs k == x) xs.length with ⟨h1, h2⟩ | ⟨m, h1, h2, h3, _⟩
  · exact .inl ⟨h1, fun j hj => by simpa using h2 j hj⟩
  · exact .inr ⟨m, h1, h2, by simpa using h3⟩

theorem plc_num {n : Nat} {x : Int} : plc (numK n) x = if 1 ≤ x ∧ x ≤ (n : Int) then x - 1 else -1 := by
  by_cases h : 1 ≤ x ∧ x ≤ (n : Int)
  · rw [if_pos h]
    have := plc_hit (xs := numK n) (x := x) (m := (x - 1).toNat) (by rw [numK_len]; omega) (by rw [numK_at (by omega)]; omega) (fun j hj => by rw [numK_at (by omega)]; omega)
    rw [this]; omega
  · rw [if_neg h]
    exact plc_miss fun j hj => by
      rw [numK_len] at hj
      rw [numK_at hj]; omega

set_option maxRecDepth 100000 in
theorem idxSeq (xs : List Int) (v : Value) (x : Int) (w : World) (hv : Seq w v xs) : Calls Tryz.prog 81 #[v, .int .i64 x] w (IntIs (plc xs x) w) := by
  have hlen := hv.len
  have HV := Lib.hid hv
  obtain ⟨A, c, rfl⟩ := seq_form2 hv
  clear hv
  have HHIT := Lib.hid (fun m hm h hb => plc_hit (xs := xs) (x := x) (m := m) hm h hb)
  have HMISS := Lib.hid (fun h => plc_miss (xs := xs) (x := x) h)
  generalize plc xs x = r at *
  go_enter Tryz.func81, Tryz.ntmps81
  go_wp2_with fail
  go_loopw [8] (fun i wr => ∃ m : Nat, m ≤ xs.length ∧ i = .int .i64 m ∧ (∀ j, j < m → atZ xs j ≠ x) ∧ Held w wr []) (fun i _ => xs.length - (intOf i).toNat)
  case atStart => exact ⟨0, Nat.zero_le _, rfl, fun j hj => by omega, Held.none_ w⟩
  case round =>
    obtain ⟨m, hm, rfl, ha, hh⟩ := hrel
    have HA := Lib.hid ha; clear ha
    have H1 := Lib.hid hh; clear hh
    by_cases hlt : m < xs.length
    · obtain ⟨A6', c6', e6, -, -, hcs⟩ := (HV.out.step H1.out.below).form
      simp only [Value.slice.injEq] at e6
      obtain ⟨rfl, -, -⟩ := e6
      obtain ⟨bb, oo, rfl, -, k0⟩ := hcs m hlt
      clear hcs
      have q1 : (0 : Int) ≤ m := by omega
      have q2 : (m : Int) < (xs.length : Int) := by omega
      have HHM := Lib.hid (fun h => HHIT.out m hlt h HA.out)
      have HAM := Lib.hid (fun (h : atZ xs m ≠ x) => (fun j (hj : j < m + 1) => (if e : j = m then e ▸ h else HA.out j (by omega)) : ∀ j, j < m + 1 → atZ xs j ≠ x))
      generalize atZ xs m = z at *
      by_cases hz : z = x
      · have HR := Lib.hid (HHM.out hz)
        have hzb : (x == z) = true := by simp [hz]
        clear hz
        go_wp2_with fail
        go_ret
        exact ⟨ret_int HR.out.symm, H1.out.below⟩
      · have HR := Lib.hid (HAM.out hz)
        have hzb : (x == z) = false := by rw [beq_eq_false_iff_ne]; exact fun e => hz e.symm
        have hzd : decide (x = z) = false := by simpa using fun e : x = z => hz e.symm
        clear hz
        go_wp2_with fail
        exact ⟨⟨m + 1, by omega, by go_num, HR.out, H1.out⟩, by simp [intOf]; omega⟩
    · obtain rfl : m = xs.length := by omega
      have HR := Lib.hid (HMISS.out HA.out)
      go_wp2_with fail
      go_ret
      exact ⟨ret_int HR.out.symm, H1.out.below⟩

/-- The face with number n in a list of faces, or -1. -/
def fwnI (xs : List Int) (n : Int) : Int := if 1 ≤ n ∧ n ≤ (xs.length : Int) then atZ xs (n - 1).toNat else -1

end Go.Proofs.YtmcbbjobjogkmabGreat
