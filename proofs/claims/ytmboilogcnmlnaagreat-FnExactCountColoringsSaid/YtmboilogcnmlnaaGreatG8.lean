/-
  Several texts in one: a claim has at most 60 files.
-/
import Derived.Test.YtmboilogcnmlnaaGreatG2
import Derived.Test.YtmboilogcnmlnaaGreatG1
import Derived.BigQuiet
import Derived.Test.YtmboilogcnmlnaaGreatFcnt
import Derived.Test.YtmboilogcnmlnaaGreatTurns
import Derived.Test.YtmboilogcnmlnaaGreatG6
import Derived.BigRegion
import Derived.Lib.MinMax
import Derived.Test.YtmboilogcnmlnaaGreatG3
import Derived.Test.YtmboilogcnmlnaaGreatDet2
import Derived.Test.YtmboilogcnmlnaaGreatGlsT

namespace Go.Proofs.YtmboilogcnmlnaaGreat
open Go.RowKit
set_option linter.unusedVariables false
set_option linter.unusedSimpArgs false

def cmpZ (a b : Int) : Int := if a < b then -1 else if b < a then 1 else 0

def orZ (a b c : Int) : Int := if a ≠ 0 then a else if b ≠ 0 then b else c

theorem isNaN_Z (a : Int) (w : World) : Calls Tryz.prog 126 #[.int .i64 a] w (BoolIs false w) := by
  go_enter Tryz.func126, Tryz.ntmps126
  go_wp2_with fail
  go_ret
  exact ⟨by simp, Below.refl _ _⟩

set_option maxRecDepth 100000 in
theorem cmpZ_int (a b : Int) (w : World) : Calls Tryz.prog 100 #[.int .i64 a, .int .i64 b] w (IntIs (cmpZ a b) w) := by
  have HN := Lib.hid (fun a w => isNaN_Z a w)
  unfold BoolIs at HN
  have H0 := Lib.hid (Held.none_ w)
  by_cases h1 : a < b
  · have HR := Lib.hid (show cmpZ a b = -1 from by unfold cmpZ; rw [if_pos h1])
    generalize cmpZ a b = r at *
    go_enter Tryz.func100, Tryz.ntmps100
    go_wp2_with fail
    refine (HN.out _ _).mono ?_
    rintro e wH1 ⟨rfl, hb⟩
    have H1 := Lib.hid ((H0.out).step hb); clear hb
    go_wp2_with fail
    refine (HN.out _ _).mono ?_
    rintro e wH2 ⟨rfl, hb⟩
    have H2 := Lib.hid ((H1.out).step hb); clear hb
    go_wp2_with fail
    go_ret
    exact ⟨ret_int HR.out.symm, H2.out.below⟩
  by_cases h2 : b < a
  · have HR := Lib.hid (show cmpZ a b = 1 from by unfold cmpZ; rw [if_neg h1, if_pos h2])
    generalize cmpZ a b = r at *
    go_enter Tryz.func100, Tryz.ntmps100
    go_wp2_with fail
    refine (HN.out _ _).mono ?_
    rintro e wH1 ⟨rfl, hb⟩
    have H1 := Lib.hid ((H0.out).step hb); clear hb
    go_wp2_with fail
    refine (HN.out _ _).mono ?_
    rintro e wH2 ⟨rfl, hb⟩
    have H2 := Lib.hid ((H1.out).step hb); clear hb
    go_wp2_with fail
    go_ret
    exact ⟨ret_int HR.out.symm, H2.out.below⟩
  · have HR := Lib.hid (show cmpZ a b = 0 from by unfold cmpZ; rw [if_neg h1, if_neg h2])
    generalize cmpZ a b = r at *
    go_enter Tryz.func100, Tryz.ntmps100
    go_wp2_with fail
    refine (HN.out _ _).mono ?_
    rintro e wH1 ⟨rfl, hb⟩
    have H1 := Lib.hid ((H0.out).step hb); clear hb
    go_wp2_with fail
    refine (HN.out _ _).mono ?_
    rintro e wH2 ⟨rfl, hb⟩
    have H2 := Lib.hid ((H1.out).step hb); clear hb
    go_wp2_with fail
    go_ret
    exact ⟨ret_int HR.out.symm, H2.out.below⟩

set_option maxRecDepth 100000 in
theorem orZ_int (a b c : Int) (v : Value) (w : World) (hv : Seq w v [a, b, c]) : Calls Tryz.prog 99 #[v] w (IntIs (orZ a b c) w) := by
  have HV := Lib.hid hv
  obtain ⟨A, cp, rfl⟩ := seq_form2 hv
  clear hv
  have HR := Lib.hid (show ∀ j, j < 3 → (∀ i, i < j → atZ [a, b, c] i = 0) → atZ [a, b, c] j ≠ 0 → orZ a b c = atZ [a, b, c] j from fun j hj h0 h1 => by
    unfold orZ
    match j, hj with
    | 0, _ => exact if_pos h1
    | 1, _ =>
      have a0 : a = 0 := h0 0 (by omega)
      exact (if_neg (by simp [a0])).trans (if_pos h1)
    | 2, _ =>
      have a0 : a = 0 := h0 0 (by omega)
      have b0 : b = 0 := h0 1 (by omega)
      exact (if_neg (by simp [a0])).trans (if_neg (by simp [b0])))
  have HZ := Lib.hid (show (∀ i, i < 3 → atZ [a, b, c] i = 0) → orZ a b c = 0 from fun h0 => by
    have a0 : a = 0 := h0 0 (by omega)
    have b0 : b = 0 := h0 1 (by omega)
    have c0 : c = 0 := h0 2 (by omega)
    unfold orZ
    rw [if_neg (by simp [a0]), if_neg (by simp [b0]), c0])
  generalize orZ a b c = r at *
  have hl : [a, b, c].length = 3 := rfl
  generalize [a, b, c] = L at *
  rw [hl]
  go_enter Tryz.func99, Tryz.ntmps99
  go_wp2_with fail
  go_loopw [8] (fun i wr => ∃ m : Nat, m ≤ 3 ∧ i = .int .i64 m ∧ (∀ j, j < m → atZ L j = 0) ∧ Held w wr []) (fun i _ => 3 - (intOf i).toNat)
  case atStart => exact ⟨0, Nat.zero_le _, rfl, fun j hj => by omega, Held.none_ w⟩
  case round =>
    obtain ⟨m, hm, rfl, ha, hh⟩ := hrel
    have HA := Lib.hid ha; clear ha
    have H1 := Lib.hid hh; clear hh
    by_cases hlt : m < 3
    · obtain ⟨A6', c6', e6, -, -, hcs⟩ := (HV.out.step H1.out.below).form
      simp only [Value.slice.injEq] at e6
      obtain ⟨rfl, -, -⟩ := e6
      obtain ⟨bb, oo, rfl, -, k0⟩ := hcs m (by omega)
      clear hcs
      have q1 : (0 : Int) ≤ m := by omega
      have q2 : (m : Int) < 3 := by omega
      have HRM := Lib.hid (fun h => HR.out m hlt HA.out h)
      have HAM := Lib.hid (fun (h : atZ L m = 0) => (fun j (hj : j < m + 1) => (if e : j = m then e ▸ h else HA.out j (by omega)) : ∀ j, j < m + 1 → atZ L j = 0))
      generalize atZ L m = z at *
      by_cases hz : z = 0
      · have HAM := Lib.hid (HAM.out hz)
        have hzb : (z != 0) = false := by simp [hz]
        clear hz
        go_wp2_with fail
        exact ⟨⟨m + 1, by omega, by go_num, HAM.out, H1.out⟩, by simp [intOf]; omega⟩
      · have HRM := Lib.hid (HRM.out hz)
        have hzb : (z != 0) = true := by simp [hz]
        clear hz
        go_wp2_with fail
        go_ret
        exact ⟨ret_int HRM.out.symm, H1.out.below⟩
    · obtain rfl : m = 3 := by omega
      have HZZ := Lib.hid (HZ.out HA.out)
      go_wp2_with fail
      go_ret
      exact ⟨ret_int HZZ.out.symm, H1.out.below⟩

theorem freeR_threeZ {w : World} {r : Result Next} {a b c : Int} (h : r = .ok (.value (.slice (some ⟨w.heap.size, 0, none⟩) 3 3)) (w.alloc (.cells #[.int .i64 a, .int .i64 b, .int .i64 c] 3))) :
    FreeR Tryz.prog (fun v W => Seq W v [a, b, c]) w r := by
  subst h
  refine ⟨⟨_, _, rfl, Nat.le_refl _, by unfold maxLen; decide, fun _ => ⟨w.heap.size, 0, rfl, by simp, fun k hk => ?_⟩⟩, (Below.refl _ _).alloc (Nat.le_refl _) _⟩
  have hb := heap_alloc_new w (.cells #[.int .i64 a, .int .i64 b, .int .i64 c] 3)
  match k, hk with
  | 0, _ => exact (cell_of_cells (k := 0) hb).trans rfl
  | 1, _ => exact (cell_of_cells (k := 1) hb).trans rfl
  | 2, _ => exact (cell_of_cells (k := 2) hb).trans rfl
  | k + 3, hk => exact absurd hk (by simp)
end Go.Proofs.YtmboilogcnmlnaaGreat

namespace Go.Proofs.YtmboilogcnmlnaaGreat
open Go.RowKit
set_option linter.unusedVariables false
set_option linter.unusedSimpArgs false

/-- A box, grown by a node. -/
def bxF (n : Nd) (b : Nd × Nd) : Nd × Nd := (⟨min b.1.x n.x, min b.1.y n.y⟩, ⟨max b.2.x n.x, max b.2.y n.y⟩)

def bxL (ns : List Nd) (xs : List Int) : Nat → Nd × Nd
  | 0 => (⟨20, 20⟩, ⟨0, 0⟩)
  | n + 1 => bxF (atN ns (atZ xs n).toNat) (bxL ns xs n)

theorem bxL_succ (ns : List Nd) (xs : List Int) (n : Nat) : bxL ns xs (n + 1) = bxF (atN ns (atZ xs n).toNat) (bxL ns xs n) := rfl

def bxS (ns : List Nd) (xs : List Int) : Nat → Nd × Nd
  | 0 => (atN ns (atZ xs 0).toNat, atN ns (atZ xs 0).toNat)
  | n + 1 => bxF (atN ns (atZ xs n).toNat) (bxS ns xs n)

theorem bxS_succ (ns : List Nd) (xs : List Int) (n : Nat) : bxS ns xs (n + 1) = bxF (atN ns (atZ xs n).toNat) (bxS ns xs n) := rfl

theorem bx_same {ns : List Nd} {xs : List Int} (hx : NodesOf ns xs) (h0 : 0 < xs.length) : ∀ n, n ≤ xs.length →
    bxS ns xs n = (⟨min (bxL ns xs n).1.x (atN ns (atZ xs 0).toNat).x, min (bxL ns xs n).1.y (atN ns (atZ xs 0).toNat).y⟩, ⟨max (bxL ns xs n).2.x (atN ns (atZ xs 0).toNat).x, max (bxL ns xs n).2.y (atN ns (atZ xs 0).toNat).y⟩)
  | 0, _ => by
    obtain ⟨a, ha, _, ho⟩ := hx 0 h0
    rw [← Int.toNat_natCast a, ← ha] at ho
    obtain ⟨h1, h2, h3, h4⟩ := area_okb ho
    unfold bxS bxL
    generalize atN ns (atZ xs 0).toNat = p at *
    obtain ⟨px, py⟩ := p
    simp only at *
    rw [show min 20 px = px by omega, show min 20 py = py by omega, show max 0 px = px by omega, show max 0 py = py by omega]
  | n + 1, h => by
    rw [bxS_succ, bxL_succ, bx_same hx h0 n (by omega)]
    generalize bxL ns xs n = b
    generalize atN ns (atZ xs 0).toNat = p
    generalize atN ns (atZ xs n).toNat = q
    unfold bxF
    simp only
    congr 2 <;> omega

theorem bx_below (ns : List Nd) (xs : List Int) {j : Nat} : ∀ n, j < n → (bxL ns xs n).1.x ≤ (atN ns (atZ xs j).toNat).x ∧ (bxL ns xs n).1.y ≤ (atN ns (atZ xs j).toNat).y ∧ (atN ns (atZ xs j).toNat).x ≤ (bxL ns xs n).2.x ∧ (atN ns (atZ xs j).toNat).y ≤ (bxL ns xs n).2.y
  | n + 1, h => by
    rw [bxL_succ]
    by_cases e : j = n
    · subst e
      unfold bxF
      simp only
      omega
    · have := bx_below ns xs n (j := j) (by omega)
      unfold bxF
      simp only
      omega

theorem bx_eq {ns : List Nd} {xs : List Int} (hx : NodesOf ns xs) (h0 : 0 < xs.length) : bxS ns xs xs.length = bxL ns xs xs.length := by
  rw [bx_same hx h0 _ (Nat.le_refl _)]
  obtain ⟨h1, h2, h3, h4⟩ := bx_below ns xs xs.length h0
  generalize bxL ns xs xs.length = b at *
  generalize atN ns (atZ xs 0).toNat = p at *
  obtain ⟨⟨a, b⟩, ⟨c, d⟩⟩ := b
  simp only at *
  rw [show min a p.x = a by omega, show min b p.y = b by omega, show max c p.x = c by omega, show max d p.y = d by omega]

noncomputable def boxW (ns ls : List Nd) (f : Int) : Nd × Nd := if idxB (wF ns ls).length f = true then bxL ns (paneW ns ls f) (paneW ns ls f).length else (⟨0, 0⟩, ⟨0, 0⟩)

theorem pane_nodesB (ns ls : List Nd) (f : Int) : NodesOf ns (paneW ns ls f) := by
  unfold paneW
  by_cases h : idxB (wF ns ls).length f = true
  · rw [if_pos h]
    obtain ⟨k, rfl, hk⟩ := idx_nat h
    obtain ⟨hw, hd, _⟩ := (wF_ok ns ls).2 k hk
    exact bord_nodes hw hd
  · rw [if_neg h]
    intro i hi
    simp at hi

theorem boxW_end (ns ls : List Nd) (f : Int) (h : ¬ (paneW ns ls f).length = 0) : boxW ns ls f = bxS ns (paneW ns ls f) (paneW ns ls f).length := by
  have hf : idxB (wF ns ls).length f = true := by
    by_cases hf : idxB (wF ns ls).length f = true
    · exact hf
    · exfalso; apply h; unfold paneW; rw [if_neg hf]; rfl
  unfold boxW
  rw [if_pos hf, bx_eq (pane_nodesB ns ls f) (by omega)]

theorem boxW_nil (ns ls : List Nd) (f : Int) (h : (paneW ns ls f).length = 0) : boxW ns ls f = (⟨0, 0⟩, ⟨0, 0⟩) := by
  unfold boxW
  by_cases hf : idxB (wF ns ls).length f = true
  · exfalso
    unfold paneW at h
    rw [if_pos hf, bord_len] at h
    obtain ⟨k, rfl, hk⟩ := idx_nat hf
    have := (row_len hk).2
    simp only [Int.toNat_natCast] at h
    omega
  · rw [if_neg hf]

/-- Two nodes are returned. -/
def BoxIs (b : Nd × Nd) (w : World) (e : Ending) (w' : World) : Prop := e = .returned (.tuple #[.agg #[.int .i64 b.1.x, .int .i64 b.1.y], .agg #[.int .i64 b.2.x, .int .i64 b.2.y]]) ∧ Below w.heap.size w w'

/-- How the faces f and h stand to each other, by their boxes. -/
def rcmp (bx : Int → Nd × Nd) (f h : Int) : Int := orZ (cmpZ (bx h).2.y (bx f).2.y) (cmpZ (bx f).1.x (bx h).1.x) (cmpZ f h)

def ltR (bx : Int → Nd × Nd) (f h : Int) : Bool := decide (rcmp bx f h < 0)

theorem ltR_iff (bx : Int → Nd × Nd) {k d : Int} (h : d < k) : ltR bx k d = true ↔ (bx d).2.y < (bx k).2.y ∨ (bx d).2.y = (bx k).2.y ∧ (bx k).1.x < (bx d).1.x := by
  unfold ltR rcmp orZ cmpZ
  rw [decide_eq_true_iff]
  split <;> split <;> (try split) <;> (try split) <;> (try split) <;> (try split) <;> omega

theorem g_box {ns ls : List Nd} {k : Nat} (h : k < (wF ns ls).length) : bxL (gN ns ls) (bord (gL ns ls) (atR (wF ns ls) k)) (bord (gL ns ls) (atR (wF ns ls) k)).length = boxW ns ls k := by
  unfold boxW paneW
  rw [if_pos ((idxB_iff _ _).2 (by omega)), if_pos ((idxB_iff _ _).2 (by omega)), g_bord h, Int.toNat_natCast]
  unfold gN
  rw [if_pos (wF_row h).1]

noncomputable def readL (ns ls : List Nd) : List Int := sortL (ltR (boxW ns ls)) (innW ns ls)

theorem readL_len (ns ls : List Nd) : (readL ns ls).length = (innW ns ls).length := sortL_len _ _ _ rfl

theorem readL_twelve (ns ls : List Nd) : (readL ns ls).length ≤ 12 := by
  rw [readL_len]
  exact inn_twelve ns ls
end Go.Proofs.YtmboilogcnmlnaaGreat

namespace Go.Proofs.YtmboilogcnmlnaaGreat
open Go.RowKit
set_option linter.unusedVariables false
set_option linter.unusedSimpArgs false

/-- Block b holds the node n. -/
def NB (W : World) (b : Nat) (n : Nd) : Prop := W.heap[b]? = some (.cells #[.int .i64 n.x, .int .i64 n.y] 39)

section

variable {W W' : World} {b g : Nat} {n : Nd}

theorem NB.lt (h : NB W b n) : b < W.heap.size := lt_of_block h

theorem NB.cells (h : NB W b n) : W.cell? ⟨b, 0, none⟩ = some (.int .i64 n.x) ∧ W.cell? ⟨b, 1, none⟩ = some (.int .i64 n.y) ∧ W.frozen? ⟨b, 0, none⟩ = false ∧ W.frozen? ⟨b, 1, none⟩ = false := by
  unfold NB at h
  refine ⟨(cell_of_cells (k := 0) h).trans rfl, (cell_of_cells (k := 1) h).trans rfl, ?_, ?_⟩ <;> simp [World.frozen?, h]

theorem NB.new (W : World) (b : Nat) (hb : b = W.heap.size) (n : Nd) : NB (W.alloc (.cells #[.int .i64 n.x, .int .i64 n.y] 39)) b n := by subst hb; exact heap_alloc_new W _

theorem NB.step (h : NB W b n) (hb : Below W.heap.size W W') : NB W' b n := (hb.block _ h.lt).trans h

theorem NB.put (h : NB W b n) (x y : Int) : NB ((W.setCell ⟨b, 0, none⟩ (.int .i64 x)).setCell ⟨b, 1, none⟩ (.int .i64 y)) b ⟨x, y⟩ := by
  have m0 := heap_setCell_self (k := 0) h (.int .i64 x)
  have m1 := heap_setCell_self (k := 1) m0 (.int .i64 y)
  exact m1

theorem NB.far (h : NB W b n) (hne : b ≠ g) (x y : Int) : NB ((W.setCell ⟨g, 0, none⟩ (.int .i64 x)).setCell ⟨g, 1, none⟩ (.int .i64 y)) b n :=
  (Below.heap_setCell _ _ _ _ hne).trans ((Below.heap_setCell _ _ _ _ hne).trans h)

end

theorem NB.of_new {W0 W : World} {b k : Nat} {x y : Int} (h : NewB W0 39 k (.pointer (some ⟨b, 0, none⟩)) W) (hk : k = 2) (c0 : W.cell? ⟨b, 0, none⟩ = some (.int .i64 x)) (c1 : W.cell? ⟨b, 1, none⟩ = some (.int .i64 y)) : NB W b ⟨x, y⟩ := by
  subst hk
  obtain ⟨b', cs, e, _, hc, hs⟩ := h
  simp only [Value.pointer.injEq, Option.some.injEq, Addr.mk.injEq] at e
  obtain ⟨rfl, -, -⟩ := e
  have d0 := cell_of_cells (k := 0) hc
  have d1 := cell_of_cells (k := 1) hc
  rw [c0] at d0
  rw [c1] at d1
  unfold NB
  rw [hc]
  congr 2
  obtain ⟨l⟩ := cs
  match l, hs with
  | [u, v], _ =>
    simp at d0 d1
    subst d0; subst d1
    rfl

/-- The result's cells (blocks r, r + 1) still 0; the corners so far. -/
structure Bx (w W : World) (r b c : Nat) (p q : Nd) : Prop where
  r0 : NB W r ⟨0, 0⟩
  r1 : NB W (r + 1) ⟨0, 0⟩
  lo : NB W b p
  hi : NB W c q
  o1 : r + 1 < b
  o2 : b < c
  o3 : w.heap.size ≤ r

section

variable {w W W' : World} {r b c : Nat} {p q : Nd}

theorem Bx.step (h : Bx w W r b c p q) (hb : Below W.heap.size W W') : Bx w W' r b c p q := ⟨h.r0.step hb, h.r1.step hb, h.lo.step hb, h.hi.step hb, h.o1, h.o2, h.o3⟩

theorem Bx.putL (h : Bx w W r b c p q) (x y : Int) : Bx w ((W.setCell ⟨b, 0, none⟩ (.int .i64 x)).setCell ⟨b, 1, none⟩ (.int .i64 y)) r b c ⟨x, y⟩ q :=
  ⟨h.r0.far (by have := h.o1; omega) x y, h.r1.far (by have := h.o1; omega) x y, h.lo.put x y, h.hi.far (by have := h.o2; omega) x y, h.o1, h.o2, h.o3⟩

theorem Bx.putH (h : Bx w W r b c p q) (x y : Int) : Bx w ((W.setCell ⟨c, 0, none⟩ (.int .i64 x)).setCell ⟨c, 1, none⟩ (.int .i64 y)) r b c p ⟨x, y⟩ :=
  ⟨h.r0.far (by have := h.o1; have := h.o2; omega) x y, h.r1.far (by have := h.o1; have := h.o2; omega) x y, h.lo.far (by have := h.o2; omega) x y, h.hi.put x y, h.o1, h.o2, h.o3⟩

end

theorem Bx.start {w wG : World} (s : Nat) (hs : s = wG.heap.size) (hw : w.heap.size ≤ s) (p q : Nd) : Bx w ((((wG.alloc (.cells #[.int .i64 0, .int .i64 0] 39)).alloc (.cells #[.int .i64 0, .int .i64 0] 39)).alloc (.cells #[.int .i64 p.x, .int .i64 p.y] 39)).alloc (.cells #[.int .i64 q.x, .int .i64 q.y] 39)) s (s + 1 + 1) (s + 1 + 1 + 1) p q :=
  ⟨(((NB.new _ _ hs ⟨0, 0⟩).step (below_alloc _ _)).step (below_alloc _ _)).step (below_alloc _ _), ((NB.new _ _ (by simp [hs]) ⟨0, 0⟩).step (below_alloc _ _)).step (below_alloc _ _), (NB.new _ _ (by simp [hs]) p).step (below_alloc _ _), NB.new _ _ (by simp [hs]) q, by omega, by omega, hw⟩

theorem Held.set2 {w W : World} {fs : List (Nat × Nat × Value)} {g : Nat} (h : Held w W fs) (hs : Bs g fs) (hg : w.heap.size ≤ g) (x y : Value) : Held w ((W.setCell ⟨g, 0, none⟩ x).setCell ⟨g, 1, none⟩ y) fs :=
  (h.setB (j := 0) (x := x) hs (Nat.le_refl g) hg).setB (j := 1) (x := y) hs (Nat.le_refl g) hg

theorem Keeps.set2 {B g : Nat} {w W : World} (h : Keeps B w W) (hg : g < B) (x y : Value) : Keeps B w ((W.setCell ⟨g, 0, none⟩ x).setCell ⟨g, 1, none⟩ y) :=
  ⟨by simpa using h.1, fun k h1 h2 => (Below.heap_setCell _ _ _ _ (by show k ≠ g; omega)).trans ((Below.heap_setCell _ _ _ _ (by show k ≠ g; omega)).trans (h.2 k h1 h2))⟩

set_option maxRecDepth 100000 in
set_option maxHeartbeats 4000000 in
theorem specBox (ns ls : List Nd) (vn vl : Value) (f : Int) (w : World) (hn : Prs w vn ns) (hl : Prs w vl ls) :
    Calls Tryz.prog 22 #[.agg #[vn, vl], .int .i64 f] w (BoxIs (boxW ns ls f) w) := by
  have HN := Lib.hid hn
  have HL := Lib.hid hl
  have HP := Lib.hid (fun w h1 h2 => specPaneNodes ns ls vn vl f w h1 h2)
  unfold IntsNew at HP
  have h40 := paneW_len ns ls f
  have HNO := Lib.hid (pane_nodesB ns ls f)
  have HEND := Lib.hid (boxW_end ns ls f)
  have HNUL := Lib.hid (boxW_nil ns ls f)
  have HBS := Lib.hid (bxS_succ ns (paneW ns ls f))
  have HBZ := Lib.hid (show bxS ns (paneW ns ls f) 0 = (atN ns (atZ (paneW ns ls f) 0).toNat, atN ns (atZ (paneW ns ls f) 0).toNat) from rfl)
  have H0 := Lib.hid (held_pair w vn vl 31)
  obtain ⟨A, c, rfl⟩ := prs_form2 hn
  obtain ⟨A2, c2, rfl⟩ := prs_form2 hl
  clear hn hl
  generalize boxW ns ls f = res at *
  generalize paneW ns ls f = xs at *
  generalize bxS ns xs = X at *
  have HR0 := Lib.hid (NB.new (w.alloc (.cells #[.slice A ns.length c, .slice A2 ls.length c2] 31)) (w.heap.size + 1) (by simp) ⟨0, 0⟩)
  have HR1 := Lib.hid (NB.new ((w.alloc (.cells #[.slice A ns.length c, .slice A2 ls.length c2] 31)).alloc (.cells #[.int .i64 0, .int .i64 0] 39)) (w.heap.size + 1 + 1) (by simp) ⟨0, 0⟩)
  have HR2 := Lib.hid (HR0.out.step (below_alloc _ (.cells #[.int .i64 0, .int .i64 0] 39)))
  have H1 := Lib.hid ((H0.out.alloc (.cells #[.int .i64 0, .int .i64 0] 39)).alloc (.cells #[.int .i64 0, .int .i64 0] 39))
  clear H0 HR0
  obtain ⟨x0, x1, _⟩ := H1.out.1
  go_enter Tryz.func22, Tryz.ntmps22
  go_wp2_with fail
  refine (HP.out _ (HN.out.step H1.out.below) (HL.out.step H1.out.below)).mono ?_
  rintro e w1 ⟨v, rfl, hv, hb⟩
  have H2 := Lib.hid (H1.out.step hb)
  have HR3 := Lib.hid (HR2.out.step hb)
  have HR4 := Lib.hid (HR1.out.step hb)
  have HV := Lib.hid hv.seq
  clear hb hv H1 HR1 HR2 x0 x1
  obtain ⟨V, cv, rfl⟩ := seq_form2 HV.out
  by_cases h0 : xs.length = 0
  · have h0i : (xs.length : Int) = 0 := by omega
    have hx0 := Lib.hid (HNUL.out h0)
    have HQ := Lib.hid h0; clear h0
    obtain ⟨e0, e1, f0, f1⟩ := HR3.out.cells
    obtain ⟨e2, e3, f2, f3⟩ := HR4.out.cells
    have d1 : w.heap.size + 1 + 1 ≠ w.heap.size + 1 := by omega
    have d2 : w.heap.size + 1 ≠ w.heap.size + 1 + 1 := by omega
    go_wp2_with fail
    have K1 := (HR3.out.put 0 0).far (g := w.heap.size + 1 + 1) (by omega) 0 0
    have K2 := (HR4.out.far (g := w.heap.size + 1) (by omega) 0 0).put 0 0
    obtain ⟨r0, r1, -, -⟩ := K1.cells
    obtain ⟨r2, r3, -, -⟩ := K2.cells
    refine bodyPost_ret (v := .tuple #[.agg #[.int .i64 0, .int .i64 0], .agg #[.int .i64 0, .int .i64 0]]) (by simp [results, Tryz.results22, go_sem, r0, r1, r2, r3]) rfl ⟨by rw [hx0.out], ?_⟩
    exact ((H2.out.set2 (g := w.heap.size + 1) ⟨Nat.lt_succ_self _, Nat.lt_succ_self _, trivial⟩ (Nat.le_succ _) _ _).set2 (g := w.heap.size + 1 + 1) ⟨by omega, by omega, trivial⟩ (by omega) _ _).below
  · have h0i : ¬ (xs.length : Int) = 0 := by omega
    have HE2 := Lib.hid (HEND.out h0)
    obtain ⟨a0, ha0, hna0, -⟩ := HNO.out 0 (by omega)
    obtain ⟨A6, c6, e6, -, -, hcs⟩ := HV.out.form
    simp only [Value.slice.injEq] at e6
    obtain ⟨rfl, -, -⟩ := e6
    obtain ⟨bb, oo, rfl, hbl, c0⟩ := hcs 0 (by omega)
    rw [ha0, Nat.add_zero] at c0
    obtain ⟨bn, on, cn, he, hbn, hcn⟩ := prs_at2 (HN.out.step H2.out.below) hna0
    simp only [Value.slice.injEq] at he
    obtain ⟨rfl, -, -⟩ := he
    obtain ⟨c1, c2'⟩ := hcn a0 hna0
    clear hcs hcn
    have HBZ2 := Lib.hid (show X 0 = (atN ns a0, atN ns a0) from by rw [HBZ.out, ha0, Int.toNat_natCast])
    have HNA := Lib.hid ha0; clear ha0
    have HH := Lib.hid (held_plus H2.out (gs := [(bb, oo, .int .i64 a0), (bn, on + a0 * 2, .int .i64 (atN ns a0).x), (bn, on + a0 * 2 + 1, .int .i64 (atN ns a0).y)]) ⟨c0, c1, c2', trivial⟩ ⟨hbl, hbn, hbn, trivial⟩)
    clear c0 c1 c2'
    generalize atN ns a0 = nd at *
    obtain ⟨nx, ny⟩ := nd
    have p3 : (0 : Int) ≤ a0 := by omega
    have p4 : (a0 : Int) < (ns.length : Int) := by omega
    have g0 : (0 : Int) < (xs.length : Int) := by omega
    have g9 : 0 < xs.length := by omega
    obtain ⟨x0, x1, x2, x3, x4, _⟩ := HH.out.1
    go_wp2_with fail
    have HBH3 := Lib.hid HH.out.2.1
    refine regionW (fun W => Held _ W [(w.heap.size, 0, .slice (some ⟨bn, on, none⟩) ns.length c), (w.heap.size, 1, .slice A2 ls.length c2), (bb, oo, .int .i64 (a0)), (bn, on + a0 * 2, .int .i64 (nx)), (bn, on + a0 * 2 + 1, .int .i64 (ny))]) (by kernel_rfl) (Held.start HH.out.1 HH.out.2.1).drew ?_
    refine takeW (i := 0) (v := ?_) (Stable.held _ _) rfl (by kernel_rfl) (by kernel_rfl) (by kernel_rfl) (fun _ _ _ h => h) ?_ ?_
    rotate_left
    · first | (refine Or.inl ⟨by rfl, fun W hS => detR_value (w' := W) ?_ (Below.refl _ _)⟩; obtain ⟨x0, x1, x2, x3, x4, _⟩ := hS.1; go_simp; first | done | with_reducible rfl) | fail
    simp only [Act.put, List.setIfInBounds_toArray, List.set_cons_zero, List.set_cons_succ]
    refine takeW (i := 1) (v := ?_) (Stable.held _ _) rfl (by kernel_rfl) (by kernel_rfl) (by kernel_rfl) (fun _ _ _ h => h) ?_ ?_
    rotate_left
    · first | (refine Or.inl ⟨by rfl, fun W hS => detR_value (w' := W) ?_ (Below.refl _ _)⟩; obtain ⟨x0, x1, x2, x3, x4, _⟩ := hS.1; go_simp; first | done | with_reducible rfl) | fail
    simp only [Act.put, List.setIfInBounds_toArray, List.set_cons_zero, List.set_cons_succ]
    refine takeW (i := 2) (v := ?_) (Stable.held _ _) rfl (by kernel_rfl) (by kernel_rfl) (by kernel_rfl) (fun _ _ _ h => h) ?_ ?_
    rotate_left
    · first | (refine Or.inl ⟨by rfl, fun W hS => detR_value (w' := W) ?_ (Below.refl _ _)⟩; obtain ⟨x0, x1, x2, x3, x4, _⟩ := hS.1; go_simp; first | done | with_reducible rfl) | fail
    simp only [Act.put, List.setIfInBounds_toArray, List.set_cons_zero, List.set_cons_succ]
    refine takeW (i := 3) (v := ?_) (Stable.held _ _) rfl (by kernel_rfl) (by kernel_rfl) (by kernel_rfl) (fun _ _ _ h => h) ?_ ?_
    rotate_left
    · first | (refine Or.inl ⟨by rfl, fun W hS => detR_value (w' := W) ?_ (Below.refl _ _)⟩; obtain ⟨x0, x1, x2, x3, x4, _⟩ := hS.1; go_simp; first | done | with_reducible rfl) | fail
    simp only [Act.put, List.setIfInBounds_toArray, List.set_cons_zero, List.set_cons_succ]
    refine takeW (i := 4) (v := ?_) (Stable.held _ _) rfl (by kernel_rfl) (by kernel_rfl) (by kernel_rfl) (fun _ _ _ h => h) ?_ ?_
    rotate_left
    · first | (refine Or.inl ⟨by rfl, fun W hS => detR_value (w' := W) ?_ (Below.refl _ _)⟩; obtain ⟨x0, x1, x2, x3, x4, _⟩ := hS.1; go_simp; first | done | with_reducible rfl) | fail
    simp only [Act.put, List.setIfInBounds_toArray, List.set_cons_zero, List.set_cons_succ]
    refine takeW (i := 5) (v := ?_) (Stable.held _ _) rfl (by kernel_rfl) (by kernel_rfl) (by kernel_rfl) (fun _ _ _ h => h) ?_ ?_
    rotate_left
    · first | (refine Or.inl ⟨by rfl, fun W hS => detR_value (w' := W) ?_ (Below.refl _ _)⟩; obtain ⟨x0, x1, x2, x3, x4, _⟩ := hS.1; go_simp; first | done | with_reducible rfl) | fail
    simp only [Act.put, List.setIfInBounds_toArray, List.set_cons_zero, List.set_cons_succ]
    refine takeW (i := 6) (v := ?_) (Stable.held _ _) rfl (by kernel_rfl) (by kernel_rfl) (by kernel_rfl) (fun _ _ _ h => h) ?_ ?_
    rotate_left
    · first | (refine Or.inl ⟨by rfl, fun W hS => detR_value (w' := W) ?_ (Below.refl _ _)⟩; obtain ⟨x0, x1, x2, x3, x4, _⟩ := hS.1; go_simp; first | done | with_reducible rfl) | fail
    simp only [Act.put, List.setIfInBounds_toArray, List.set_cons_zero, List.set_cons_succ]
    refine allocV (i := 7) 39 #[.int .i64 0, .int .i64 0] rfl (by kernel_rfl) (by rfl) (fun W => ?_) (fun vn => ?_)
    · go_simp; first | done | with_reducible rfl
    simp only [Act.put, List.setIfInBounds_toArray, List.set_cons_zero, List.set_cons_succ]
    refine storeV (i := 8) #[.int .i64 nx, .int .i64 ny] rfl (by kernel_rfl) (by rfl) rfl (by rfl) (by rfl) HBH3.out rfl (by kernel_rfl) (by simp [Value.oneCell']) ?_
    simp only [Act.put, List.setIfInBounds_toArray, List.set_cons_zero, List.set_cons_succ]
    refine doneW (by kernel_rfl) fun wH3 HG => ?_
    obtain ⟨⟨hH, _⟩, bH3, rfl, hbn, hcn⟩ := HG
    have BWH3 := Lib.hid hH.2.2
    have H3 := Lib.hid (Held.joined HH.out hH hcn); clear hH hcn HBH3
    try clear x0 x1 x2 x3 x4
    obtain ⟨x0, x1, x2, x3, x4, x5, x6, _⟩ := H3.out.1
    go_wp2_with fail
    have hnew := ‹NewB w1 39 _ (.pointer (some ⟨bH3, 0, none⟩)) wH3›
    have HLO := Lib.hid ((NB.of_new hnew rfl x0 x1).step (below_alloc wH3 (.cells #[.int .i64 nx, .int .i64 ny] 39)))
    have HHI := Lib.hid (NB.new wH3 wH3.heap.size rfl ⟨nx, ny⟩)
    have hsz3 := H3.out.2.1.1
    have BW := Lib.hid (BWH3.out.trans ((below_alloc wH3 (.cells #[.int .i64 nx, .int .i64 ny] 39)).mono BWH3.out.size))
    have HW01 := Lib.hid H2.out.below
    have hb7 : w1.heap.size ≤ bH3 := by assumption
    have hl2 := HR4.out.lt
    have HX := Lib.hid (show Bx w (wH3.alloc (.cells #[.int .i64 nx, .int .i64 ny] 39)) (w.heap.size + 1) bH3 wH3.heap.size (X 0).1 (X 0).2 from by
      rw [HBZ2.out]
      exact ⟨HR3.out.step BW.out, HR4.out.step BW.out, HLO.out, HHI.out, by omega, hsz3, Nat.le_succ _⟩)
    have H4 := Lib.hid (show Held w1 (wH3.alloc (.cells #[.int .i64 nx, .int .i64 ny] 39)) [(w.heap.size, 0, .slice (some ⟨bn, on, none⟩) ns.length c), (w.heap.size, 1, .slice A2 ls.length c2)] from
      ⟨⟨(BW.out.cell (p := ⟨_, 0, none⟩) H2.out.2.1.1).trans H2.out.1.1, (BW.out.cell (p := ⟨_, 1, none⟩) H2.out.2.1.1).trans H2.out.1.2.1, trivial⟩, ⟨Nat.lt_of_lt_of_le H2.out.2.1.1 BW.out.size, Nat.lt_of_lt_of_le H2.out.2.1.1 BW.out.size, trivial⟩, BW.out⟩)
    obtain ⟨b8, hb8⟩ : ∃ b, b = wH3.heap.size := ⟨_, rfl⟩
    rw [← hb8] at HX ⊢
    have hb8' : w1.heap.size ≤ b8 := by rw [hb8]; omega
    clear hb8 hsz3 HLO HHI HR3 HR4 H3 HH BW BWH3 hnew x0 x1 x2 x3 x4 x5 x6 HBZ HBZ2 hl2
    have HB78 := Lib.hid (And.intro hb7 hb8'); clear hb7 hb8'
    go_loopw [9] (fun i wr => ∃ m : Nat, m ≤ xs.length ∧ i = .int .i64 m ∧ Bx w wr (w.heap.size + 1) bH3 b8 (X m).1 (X m).2 ∧ Held w1 wr [(w.heap.size, 0, .slice (some ⟨bn, on, none⟩) ns.length c), (w.heap.size, 1, .slice A2 ls.length c2)]) (fun i _ => xs.length - (intOf i).toNat)
    case atStart => exact ⟨0, Nat.zero_le _, rfl, HX.out, H4.out⟩
    case round =>
      clear HX H4
      obtain ⟨m, hm, rfl, hx, hh⟩ := hrel
      have HX := Lib.hid hx; clear hx
      have H1 := Lib.hid hh; clear hh
      by_cases hlt : m < xs.length
      · obtain ⟨a, ha, hna, -⟩ := HNO.out m hlt
        obtain ⟨A6, c6, e6, -, -, hcs⟩ := (HV.out.step H1.out.below).form
        simp only [Value.slice.injEq] at e6
        obtain ⟨e6, -, -⟩ := e6
        obtain ⟨bb', oo', e7, hbl', c0⟩ := hcs m hlt
        rw [← e6] at e7
        simp only [Option.some.injEq, Addr.mk.injEq] at e7
        obtain ⟨rfl, rfl, -⟩ := e7
        rw [ha] at c0
        obtain ⟨bn', on', cn', he, hbn', hcn⟩ := prs_at2 (HN.out.step (HW01.out.trans (H1.out.below.mono HW01.out.size))) hna
        simp only [Value.slice.injEq, Option.some.injEq, Addr.mk.injEq] at he
        obtain ⟨⟨rfl, rfl, -⟩, -, -⟩ := he
        obtain ⟨c1, c2'⟩ := hcn a hna
        clear hcs hcn e6
        have HH := Lib.hid (held_plus H1.out (gs := [(bb, oo + m, .int .i64 a), (bn, on + a * 2, .int .i64 (atN ns a).x), (bn, on + a * 2 + 1, .int .i64 (atN ns a).y)]) ⟨c0, c1, c2', trivial⟩ ⟨hbl', hbn', hbn', trivial⟩)
        clear c0 c1 c2'
        have HXM := Lib.hid (HBS.out m)
        rw [ha, Int.toNat_natCast] at HXM
        have HNA := Lib.hid ha; clear ha
        generalize atN ns a = nd at *
        obtain ⟨nx', ny'⟩ := nd
        generalize X m = b at *
        obtain ⟨⟨lx, ly⟩, ⟨ux, uy⟩⟩ := b
        unfold bxF at HXM
        simp only at HXM HX HH
        have p1 : (0 : Int) ≤ m := by omega
        have p2 : (m : Int) < (xs.length : Int) := by omega
        have p3 : (0 : Int) ≤ a := by omega
        have p4 : (a : Int) < (ns.length : Int) := by omega
        obtain ⟨x0, x1, x2, x3, x4, _⟩ := HH.out.1
        obtain ⟨e0, e1, f0, f1⟩ := HX.out.r0.cells
        obtain ⟨e2, e3, f2, f3⟩ := HX.out.r1.cells
        obtain ⟨e4, e5, f4, f5⟩ := HX.out.lo.cells
        obtain ⟨e6, e7, f6, f7⟩ := HX.out.hi.cells
        have n1 := HX.out.o1
        have n2 := HX.out.o2
        have m1 := HX.out.r0.lt
        have m2 := HX.out.r1.lt
        have m3 := HX.out.lo.lt
        have m4 := HX.out.hi.lt
        go_wp2_with fail
        clear e0 e1 e2 e3 e4 e5 e6 e7 f0 f1 f2 f3 f4 f5 f6 f7
        have HBH5 := Lib.hid HH.out.2.1
        refine regionW (fun W => Held _ W [(w.heap.size, 0, .slice (some ⟨bn, on, none⟩) ns.length c), (w.heap.size, 1, .slice A2 ls.length c2), (bb, oo + m, .int .i64 (a)), (bn, on + a * 2, .int .i64 (nx')), (bn, on + a * 2 + 1, .int .i64 (ny'))]) (by kernel_rfl) (Held.start HH.out.1 HH.out.2.1).drew ?_
        refine takeW (i := 0) (v := ?_) (Stable.held _ _) rfl (by kernel_rfl) (by kernel_rfl) (by kernel_rfl) (fun _ _ _ h => h) ?_ ?_
        rotate_left
        · first | (refine Or.inl ⟨by rfl, fun W hS => detR_value (w' := W) ?_ (Below.refl _ _)⟩; obtain ⟨x0, x1, x2, x3, x4, _⟩ := hS.1; go_simp; first | done | with_reducible rfl) | fail
        simp only [Act.put, List.setIfInBounds_toArray, List.set_cons_zero, List.set_cons_succ]
        refine takeW (i := 1) (v := ?_) (Stable.held _ _) rfl (by kernel_rfl) (by kernel_rfl) (by kernel_rfl) (fun _ _ _ h => h) ?_ ?_
        rotate_left
        · first | (refine Or.inl ⟨by rfl, fun W hS => detR_value (w' := W) ?_ (Below.refl _ _)⟩; obtain ⟨x0, x1, x2, x3, x4, _⟩ := hS.1; go_simp; first | done | with_reducible rfl) | fail
        simp only [Act.put, List.setIfInBounds_toArray, List.set_cons_zero, List.set_cons_succ]
        refine takeW (i := 2) (v := ?_) (Stable.held _ _) rfl (by kernel_rfl) (by kernel_rfl) (by kernel_rfl) (fun _ _ _ h => h) ?_ ?_
        rotate_left
        · first | (refine Or.inl ⟨by rfl, fun W hS => detR_value (w' := W) ?_ (Below.refl _ _)⟩; obtain ⟨x0, x1, x2, x3, x4, _⟩ := hS.1; go_simp; first | done | with_reducible rfl) | fail
        simp only [Act.put, List.setIfInBounds_toArray, List.set_cons_zero, List.set_cons_succ]
        refine takeW (i := 3) (v := ?_) (Stable.held _ _) rfl (by kernel_rfl) (by kernel_rfl) (by kernel_rfl) (fun _ _ _ h => h) ?_ ?_
        rotate_left
        · first | (refine Or.inl ⟨by rfl, fun W hS => detR_value (w' := W) ?_ (Below.refl _ _)⟩; obtain ⟨x0, x1, x2, x3, x4, _⟩ := hS.1; go_simp; first | done | with_reducible rfl) | fail
        simp only [Act.put, List.setIfInBounds_toArray, List.set_cons_zero, List.set_cons_succ]
        refine takeW (i := 4) (v := ?_) (Stable.held _ _) rfl (by kernel_rfl) (by kernel_rfl) (by kernel_rfl) (fun _ _ _ h => h) ?_ ?_
        rotate_left
        · first | (refine Or.inl ⟨by rfl, fun W hS => detR_value (w' := W) ?_ (Below.refl _ _)⟩; obtain ⟨x0, x1, x2, x3, x4, _⟩ := hS.1; go_simp; first | done | with_reducible rfl) | fail
        simp only [Act.put, List.setIfInBounds_toArray, List.set_cons_zero, List.set_cons_succ]
        refine takeW (i := 5) (v := ?_) (Stable.held _ _) rfl (by kernel_rfl) (by kernel_rfl) (by kernel_rfl) (fun _ _ _ h => h) ?_ ?_
        rotate_left
        · first | (refine Or.inl ⟨by rfl, fun W hS => detR_value (w' := W) ?_ (Below.refl _ _)⟩; obtain ⟨x0, x1, x2, x3, x4, _⟩ := hS.1; go_simp; first | done | with_reducible rfl) | fail
        simp only [Act.put, List.setIfInBounds_toArray, List.set_cons_zero, List.set_cons_succ]
        refine takeW (i := 6) (v := ?_) (Stable.held _ _) rfl (by kernel_rfl) (by kernel_rfl) (by kernel_rfl) (fun _ _ _ h => h) ?_ ?_
        rotate_left
        · first | (refine Or.inl ⟨by rfl, fun W hS => detR_value (w' := W) ?_ (Below.refl _ _)⟩; obtain ⟨x0, x1, x2, x3, x4, _⟩ := hS.1; go_simp; first | done | with_reducible rfl) | fail
        simp only [Act.put, List.setIfInBounds_toArray, List.set_cons_zero, List.set_cons_succ]
        refine takeW (i := 7) (v := ?_) (Stable.held _ _) rfl (by kernel_rfl) (by kernel_rfl) (by kernel_rfl) (fun _ _ _ h => h) ?_ ?_
        rotate_left
        · first | (refine Or.inl ⟨by rfl, fun W hS => detR_value (w' := W) ?_ (Below.refl _ _)⟩; obtain ⟨x0, x1, x2, x3, x4, _⟩ := hS.1; go_simp; first | done | with_reducible rfl) | fail
        simp only [Act.put, List.setIfInBounds_toArray, List.set_cons_zero, List.set_cons_succ]
        refine allocV (i := 8) 39 #[.int .i64 0, .int .i64 0] rfl (by kernel_rfl) (by rfl) (fun W => ?_) (fun vn => ?_)
        · go_simp; first | done | with_reducible rfl
        simp only [Act.put, List.setIfInBounds_toArray, List.set_cons_zero, List.set_cons_succ]
        refine storeV (i := 9) #[.int .i64 nx', .int .i64 ny'] rfl (by kernel_rfl) (by rfl) rfl (by rfl) (by rfl) HBH5.out rfl (by kernel_rfl) (by simp [Value.oneCell']) ?_
        simp only [Act.put, List.setIfInBounds_toArray, List.set_cons_zero, List.set_cons_succ]
        refine doneW (by kernel_rfl) fun wH5 HG => ?_
        obtain ⟨⟨hH, _⟩, bH5, rfl, hbn, hcn⟩ := HG
        have BWH5 := Lib.hid hH.2.2
        have H5 := Lib.hid (Held.joined HH.out hH hcn); clear hH hcn HBH5
        try clear x0 x1 x2 x3 x4
        obtain ⟨x0, x1, x2, x3, x4, x5, x6, _⟩ := H5.out.1
        have HX5 := Lib.hid (HX.out.step BWH5.out)
        have hsz5 := BWH5.out.size
        obtain ⟨e4, e5, f4, f5⟩ := HX5.out.lo.cells
        obtain ⟨e6, e7, f6, f7⟩ := HX5.out.hi.cells
        have H6 := Lib.hid (H5.out.only (gs := [(w.heap.size, 0, .slice (some ⟨bn, on, none⟩) ns.length c), (w.heap.size, 1, .slice A2 ls.length c2)]) (fun ⟨_, _, a, b, _⟩ => ⟨a, b, trivial⟩) (fun ⟨_, _, a, b, _⟩ => ⟨a, b, trivial⟩))
        have hlt5 := H6.out.2.1.1
        have d1 : bH3 ≠ b8 := by omega
        have d2 : b8 ≠ bH3 := by omega
        have d3 : bH3 ≠ bH5 := by omega
        have d4 : b8 ≠ bH5 := by omega
        have d5 : bH5 ≠ bH3 := by omega
        have d6 : bH5 ≠ b8 := by omega
        have HH6 := Lib.hid ((H6.out.set2 (g := bH3) ⟨Nat.lt_of_lt_of_le H2.out.2.1.1 HB78.out.1, Nat.lt_of_lt_of_le H2.out.2.1.1 HB78.out.1, trivial⟩ HB78.out.1 (.int .i64 (min lx nx')) (.int .i64 (min ly ny'))).set2 (g := b8) ⟨Nat.lt_of_lt_of_le H2.out.2.1.1 HB78.out.2, Nat.lt_of_lt_of_le H2.out.2.1.1 HB78.out.2, trivial⟩ HB78.out.2 (.int .i64 (max ux nx')) (.int .i64 (max uy ny')))
        have HX6 := Lib.hid ((HX5.out.putL (min lx nx') (min ly ny')).putH (max ux nx') (max uy ny'))
        clear hsz5 hlt5 x2 x3 x4 x5 x6 n1 n2 m1 m2 m3 m4
        go_wp2_with fail
        exact ⟨⟨m + 1, by omega, by go_num, by rw [HXM.out]; exact HX6.out, HH6.out⟩, by simp [intOf]; omega⟩
      · obtain rfl : m = xs.length := by omega
        obtain ⟨b, hb⟩ : ∃ b, b = X xs.length := ⟨_, rfl⟩
        rw [← hb] at HX HE2
        clear hb
        obtain ⟨⟨lx, ly⟩, ⟨ux, uy⟩⟩ := b
        simp only at HX
        obtain ⟨e0, e1, f0, f1⟩ := HX.out.r0.cells
        obtain ⟨e2, e3, f2, f3⟩ := HX.out.r1.cells
        obtain ⟨e4, e5, f4, f5⟩ := HX.out.lo.cells
        obtain ⟨e6, e7, f6, f7⟩ := HX.out.hi.cells
        have n1 := HX.out.o1
        have n2 := HX.out.o2
        have m1 := HX.out.r0.lt
        have m2 := HX.out.r1.lt
        have m3 := HX.out.lo.lt
        have m4 := HX.out.hi.lt
        have d1 : w.heap.size + 1 + 1 ≠ w.heap.size + 1 := by omega
        have d2 : w.heap.size + 1 ≠ w.heap.size + 1 + 1 := by omega
        have d3 : bH3 ≠ w.heap.size + 1 := by omega
        have d4 : b8 ≠ w.heap.size + 1 := by omega
        have d5 : bH3 ≠ w.heap.size + 1 + 1 := by omega
        have d6 : b8 ≠ w.heap.size + 1 + 1 := by omega
        go_wp2_with fail
        go_big_region
        all_goals go_wp2_with fail
        have K1 := (HX.out.r0.put lx ly).far (g := w.heap.size + 1 + 1) (by omega) ux uy
        have K2 := (HX.out.r1.far (g := w.heap.size + 1) (by omega) lx ly).put ux uy
        obtain ⟨r0, r1, -, -⟩ := K1.cells
        obtain ⟨r2, r3, -, -⟩ := K2.cells
        have BB := HW01.out.trans (H1.out.below.mono HW01.out.size)
        refine bodyPost_ret (v := .tuple #[.agg #[.int .i64 lx, .int .i64 ly], .agg #[.int .i64 ux, .int .i64 uy]]) (by simp [results, Tryz.results22, go_sem, r0, r1, r2, r3]) rfl ⟨by rw [HE2.out], ?_⟩
        exact ((((BB.setCell (p := ⟨_, _, none⟩) (by show w.heap.size ≤ w.heap.size + 1; omega) _).setCell (p := ⟨_, _, none⟩) (by show w.heap.size ≤ w.heap.size + 1; omega) _).setCell (p := ⟨_, _, none⟩) (by show w.heap.size ≤ w.heap.size + 1 + 1; omega) _).setCell (p := ⟨_, _, none⟩) (by show w.heap.size ≤ w.heap.size + 1 + 1; omega) _).drew

set_option maxRecDepth 100000 in
set_option maxHeartbeats 4000000 in
theorem implBoxG (v1 v2 v3 v4 : Value) (rs : List (List Int)) (ds : List Int) (ns ls : List Nd) (B B2 k : Nat) (w : World) (hn : Prs w v1 ns) (hl : Prs w v2 ls) (hf : Faces w B v3 rs) (ha : Ints w B2 v4 ds) (hok : RowsOk ns ls rs) (hk : k < rs.length) (h20 : ls.length ≤ 20) :
    Calls Tryz.prog 58 #[.agg #[v1, v2, v3, v4], .int .i64 k] w (BoxIs (bxL ns (bord ls (atR rs k)) (bord ls (atR rs k)).length) w) := by
  have HB := Lib.hid (fun W hb => implBorder v1 v2 v3 v4 rs ds ns ls B B2 k W (hn.step hb) (hl.step hb) (hf.step hb) (ha.step hb) hok hk h20)
  unfold IntsNew at HB
  obtain ⟨hw, hd, h4⟩ := hok.2 k hk
  have HNO := Lib.hid (bord_nodes hw hd)
  have hxl : (bord ls (atR rs k)).length ≤ 40 := by rw [bord_len]; exact h4
  have HN := Lib.hid hn
  obtain ⟨A, c, rfl⟩ := prs_form2 hn
  obtain ⟨A2, c2, rfl⟩ := prs_form2 hl
  obtain ⟨A3, c3, rfl⟩ := faces_form hf
  obtain ⟨A4, c4, rfl⟩ := ints_form ha
  have HG := Lib.hid (heldG w (.slice A ns.length c) (.slice A2 ls.length c2) (.slice A3 rs.length c3) (.slice A4 ds.length c4) 66)
  clear hn hl hf ha hok hk h20 hw hd h4
  generalize bord ls (atR rs k) = xs at *
  have HBS := Lib.hid (bxL_succ ns xs)
  have HBZ := Lib.hid (show bxL ns xs 0 = (⟨20, 20⟩, ⟨0, 0⟩) from rfl)
  generalize bxL ns xs = X at *
  have HX0 := Lib.hid (Bx.start (w := w) (wG := w.alloc (.cells #[.slice A ns.length c, .slice A2 ls.length c2, .slice A3 rs.length c3, .slice A4 ds.length c4] 66)) (w.heap.size + 1) (by simp) (Nat.le_succ _) ⟨20, 20⟩ ⟨0, 0⟩)
  have H1 := Lib.hid ((((HG.out.alloc (.cells #[.int .i64 0, .int .i64 0] 39)).alloc (.cells #[.int .i64 0, .int .i64 0] 39)).alloc (.cells #[.int .i64 20, .int .i64 20] 39)).alloc (.cells #[.int .i64 0, .int .i64 0] 39))
  obtain ⟨x0, x1, x2, x3, _⟩ := HG.out.1
  go_enter Tryz.func58, Tryz.ntmps58
  go_wp2_with fail
  refine (HB.out _ H1.out.below).mono ?_
  rintro e w1 ⟨v, rfl, hv, hb⟩
  have HX := Lib.hid (show Bx w w1 (w.heap.size + 1) (w.heap.size + 1 + 1 + 1) (w.heap.size + 1 + 1 + 1 + 1) (X 0).1 (X 0).2 from by rw [HBZ.out]; exact HX0.out.step hb)
  have HW01 := Lib.hid (H1.out.below.trans (hb.mono H1.out.below.size))
  have H2 := Lib.hid (Held.start (H1.out.step hb).1 (H1.out.step hb).2.1)
  have hsz : (((((w.alloc (.cells #[.slice A ns.length c, .slice A2 ls.length c2, .slice A3 rs.length c3, .slice A4 ds.length c4] 66)).alloc (.cells #[.int .i64 0, .int .i64 0] 39)).alloc (.cells #[.int .i64 0, .int .i64 0] 39)).alloc (.cells #[.int .i64 20, .int .i64 20] 39)).alloc (.cells #[.int .i64 0, .int .i64 0] 39)).heap.size = w.heap.size + 1 + 1 + 1 + 1 + 1 := by simp
  rw [hsz] at hv
  have H2 := Lib.hid (H1.out.step hb)
  have HV := Lib.hid hv
  clear hb hv hsz H1 HG HX0 x0 x1 x2 x3 HBZ
  obtain ⟨V, cv, rfl⟩ := ints_form HV.out
  obtain ⟨x0, x1, x2, x3, _⟩ := H2.out.1
  go_wp2_with fail
  clear x0 x1 x2 x3
  go_loopw [17] (fun i wr => ∃ m : Nat, m ≤ xs.length ∧ i = .int .i64 m ∧ Bx w wr (w.heap.size + 1) (w.heap.size + 1 + 1 + 1) (w.heap.size + 1 + 1 + 1 + 1) (X m).1 (X m).2 ∧ Keeps (w.heap.size + 1 + 1 + 1 + 1 + 1) w1 wr ∧ Held w wr [(w.heap.size, 0, .slice A ns.length c), (w.heap.size, 1, .slice A2 ls.length c2), (w.heap.size, 2, .slice A3 rs.length c3), (w.heap.size, 3, .slice A4 ds.length c4)]) (fun i _ => xs.length - (intOf i).toNat)
  case atStart => exact ⟨0, Nat.zero_le _, rfl, HX.out, Keeps.refl _ _, H2.out⟩
  case round =>
    clear HX H2
    obtain ⟨m, hm, rfl, hx, hk, hh⟩ := hrel
    have HX := Lib.hid hx; clear hx
    have HK := Lib.hid hk; clear hk
    have H1 := Lib.hid hh; clear hh
    by_cases hlt : m < xs.length
    · obtain ⟨a, ha, hna, -⟩ := HNO.out m hlt
      have HVR := (HV.out.keep (w' := wr) fun k e => HK.out.2 k (HV.out.own k e).1 (HV.out.own k e).2).seq
      obtain ⟨A6, c6, e6, -, -, hcs⟩ := HVR.form
      simp only [Value.slice.injEq] at e6
      obtain ⟨rfl, -, -⟩ := e6
      obtain ⟨bb, oo, rfl, hbl', c0⟩ := hcs m hlt
      rw [ha] at c0
      obtain ⟨bn, on, cn', he, hbn', hcn⟩ := prs_at2 (HN.out.step H1.out.below) hna
      simp only [Value.slice.injEq] at he
      obtain ⟨rfl, -, -⟩ := he
      obtain ⟨c1, c2'⟩ := hcn a hna
      clear hcs hcn HVR
      have HH := Lib.hid (And.intro c1 c2')
      clear c1 c2'
      have HXM := Lib.hid (HBS.out m)
      rw [ha, Int.toNat_natCast] at HXM
      have HNA := Lib.hid ha; clear ha
      generalize atN ns a = nd at *
      obtain ⟨nx', ny'⟩ := nd
      generalize X m = b at *
      obtain ⟨⟨lx, ly⟩, ⟨ux, uy⟩⟩ := b
      unfold bxF at HXM
      simp only at HXM HX HH
      have p1 : (0 : Int) ≤ m := by omega
      have p2 : (m : Int) < (xs.length : Int) := by omega
      have p3 : (0 : Int) ≤ a := by omega
      have p4 : (a : Int) < (ns.length : Int) := by omega
      obtain ⟨c1, c2'⟩ := HH.out
      clear HH
      have HX6 := Lib.hid (((HX.out.putL (min lx nx') (min ly ny')).putH (max ux nx') (max uy ny')).step (below_alloc _ (.cells #[.int .i64 nx', .int .i64 ny'] 39)))
      have HK6 := Lib.hid (((HK.out.set2 (g := w.heap.size + 1 + 1 + 1) (by omega) (.int .i64 (min lx nx')) (.int .i64 (min ly ny'))).set2 (g := w.heap.size + 1 + 1 + 1 + 1) (by omega) (.int .i64 (max ux nx')) (.int .i64 (max uy ny'))).below (below_alloc _ (.cells #[.int .i64 nx', .int .i64 ny'] 39)))
      have H6 := Lib.hid (((H1.out.set2 (g := w.heap.size + 1 + 1 + 1) ⟨by omega, by omega, by omega, by omega, trivial⟩ (by omega) (.int .i64 (min lx nx')) (.int .i64 (min ly ny'))).set2 (g := w.heap.size + 1 + 1 + 1 + 1) ⟨by omega, by omega, by omega, by omega, trivial⟩ (by omega) (.int .i64 (max ux nx')) (.int .i64 (max uy ny'))).alloc (.cells #[.int .i64 nx', .int .i64 ny'] 39))
      obtain ⟨e4, e5, f4, f5⟩ := HX.out.lo.cells
      obtain ⟨e6, e7, f6, f7⟩ := HX.out.hi.cells
      have m3 := HX.out.lo.lt
      have m4 := HX.out.hi.lt
      have d1 : w.heap.size + 1 + 1 + 1 ≠ w.heap.size + 1 + 1 + 1 + 1 := by omega
      have d2 : w.heap.size + 1 + 1 + 1 + 1 ≠ w.heap.size + 1 + 1 + 1 := by omega
      have d3 : w.heap.size + 1 + 1 + 1 ≠ wr.heap.size := by omega
      have d4 : w.heap.size + 1 + 1 + 1 + 1 ≠ wr.heap.size := by omega
      have d5 : wr.heap.size ≠ w.heap.size + 1 + 1 + 1 := by omega
      have d6 : wr.heap.size ≠ w.heap.size + 1 + 1 + 1 + 1 := by omega
      obtain ⟨x0, x1, x2, x3, _⟩ := H1.out.1
      go_wp2_with fail
      exact ⟨⟨m + 1, by omega, by go_num, by rw [HXM.out]; exact HX6.out, HK6.out, H6.out⟩, by simp [intOf]; omega⟩
    · obtain rfl : m = xs.length := by omega
      generalize X xs.length = b at *
      obtain ⟨⟨lx, ly⟩, ⟨ux, uy⟩⟩ := b
      simp only at HX
      obtain ⟨e0, e1, f0, f1⟩ := HX.out.r0.cells
      obtain ⟨e2, e3, f2, f3⟩ := HX.out.r1.cells
      obtain ⟨e4, e5, f4, f5⟩ := HX.out.lo.cells
      obtain ⟨e6, e7, f6, f7⟩ := HX.out.hi.cells
      have n1 := HX.out.o1
      have n2 := HX.out.o2
      have m1 := HX.out.r0.lt
      have m2 := HX.out.r1.lt
      have m3 := HX.out.lo.lt
      have m4 := HX.out.hi.lt
      have d1 : w.heap.size + 1 + 1 ≠ w.heap.size + 1 := by omega
      have d2 : w.heap.size + 1 ≠ w.heap.size + 1 + 1 := by omega
      go_wp2_with fail
      go_big_region
      all_goals go_wp2_with fail
      have K1 := (HX.out.r0.put lx ly).far (g := w.heap.size + 1 + 1) (by omega) ux uy
      have K2 := (HX.out.r1.far (g := w.heap.size + 1) (by omega) lx ly).put ux uy
      obtain ⟨r0, r1, -, -⟩ := K1.cells
      obtain ⟨r2, r3, -, -⟩ := K2.cells
      have BB := H1.out.below
      refine bodyPost_ret (v := .tuple #[.agg #[.int .i64 lx, .int .i64 ly], .agg #[.int .i64 ux, .int .i64 uy]]) (by simp [results, Tryz.results58, go_sem, r0, r1, r2, r3]) rfl ⟨rfl, ?_⟩
      exact ((((BB.setCell (p := ⟨_, _, none⟩) (by show w.heap.size ≤ w.heap.size + 1; omega) _).setCell (p := ⟨_, _, none⟩) (by show w.heap.size ≤ w.heap.size + 1; omega) _).setCell (p := ⟨_, _, none⟩) (by show w.heap.size ≤ w.heap.size + 1 + 1; omega) _).setCell (p := ⟨_, _, none⟩) (by show w.heap.size ≤ w.heap.size + 1 + 1; omega) _).drew
end Go.Proofs.YtmboilogcnmlnaaGreat

namespace Go.Proofs.YtmboilogcnmlnaaGreat
open Go.RowKit
set_option linter.unusedVariables false
set_option linter.unusedSimpArgs false

set_option maxRecDepth 100000 in
set_option maxHeartbeats 4000000 in
theorem insSortR {w0 : World} {B g cp : Nat} {fs : List (Nat × Nat × Value)} (p2 : Value) (c : Int → Int → Int) (xs : List Int) (w : World) (hB : w0.heap.size ≤ B) (hfs : Bs B fs) (hH : Held w0 w fs)
    (hI : Ints w B (.slice (some ⟨g, 0, none⟩) xs.length cp) xs) (h20 : xs.length ≤ 20)
    (hC : ∀ W x y, x ∈ xs → y ∈ xs → Held w0 W fs → Calls Tryz.prog 98 #[.int .i64 x, .int .i64 y, p2] W (IntIs (c x y) W)) :
    Calls Tryz.prog 142 #[.slice (some ⟨g, 0, none⟩) xs.length cp, .int .i64 0, .int .i64 xs.length, .func (.func 98) #[] #[p2]] w
      fun e w' => e = .returned (.tuple #[]) ∧ Ints w' B (.slice (some ⟨g, 0, none⟩) xs.length cp) (sortL (fun x y => decide (c x y < 0)) xs) ∧ Held w0 w' fs := by
  have HH := Lib.hid hH; clear hH
  have HI := Lib.hid hI; clear hI
  have HC := Lib.hid hC; clear hC
  have HFS := Lib.hid hfs; clear hfs
  have HT := Lib.hid (sortL_take (fun x y => decide (c x y < 0)) xs)
  have HLEN := Lib.hid (fun i (hi : i ≤ xs.length) => sortL_len (fun x y => decide (c x y < 0)) i (xs.take i) (by simp; omega))
  have HMEM := Lib.hid (fun i x (h : x ∈ sortL (fun x y => decide (c x y < 0)) (xs.take i)) => List.mem_of_mem_take (sortL_mem _ _ _ rfl x h))
  have HZ := Lib.hid (show 1 ≤ xs.length → sortL (fun x y => decide (c x y < 0)) (xs.take 1) ++ xs.drop 1 = xs from fun h => by
    have := sortL_take (fun x y => decide (c x y < 0)) xs 0 h
    rw [this]
    show (insL _ _ (sortL _ [])) ++ _ = _
    have e : xs = atZ xs 0 :: xs.drop 1 := by rw [← atZ_get (by omega)]; exact (List.drop_eq_getElem_cons (i := 0) (by omega))
    conv => rhs; rw [e]
    rfl)
  have HF := Lib.hid (show sortL (fun x y => decide (c x y < 0)) (xs.take xs.length) = sortL (fun x y => decide (c x y < 0)) xs from by rw [List.take_length])
  obtain ⟨S, hS⟩ : ∃ S : Nat → List Int, S = fun i => sortL (fun x y => decide (c x y < 0)) (xs.take i) := ⟨_, rfl⟩
  have HS := Lib.hid hS; clear hS
  go_enter Tryz.func142, Tryz.ntmps142
  go_wp2_with fail
  go_loopw [8] (fun vi wr => ∃ i : Nat, 1 ≤ i ∧ (i ≤ xs.length ∨ xs.length = 0) ∧ vi = .int .i64 i ∧ Ints wr B (.slice (some ⟨g, 0, none⟩) xs.length cp) (S i ++ xs.drop i) ∧ Held w0 wr fs) (fun i _ => xs.length - (intOf i).toNat)
  case atStart =>
    refine ⟨1, Nat.le_refl _, by omega, by go_num, ?_, HH.out⟩
    by_cases h1 : 1 ≤ xs.length
    · rw [HS.out, HZ.out h1]; exact HI.out
    · obtain rfl : xs = [] := List.eq_nil_of_length_eq_zero (by omega)
      rw [HS.out]; exact HI.out
  case round =>
    clear HH HI HZ
    obtain ⟨i, hi1, hin, rfl, hown, hh⟩ := hrel
    have HOWN := Lib.hid hown; clear hown
    have HH := Lib.hid hh; clear hh
    by_cases hlt : i < xs.length
    · have hz1 : (i : Int) < (xs.length : Int) := by omega
      have HTI := Lib.hid (HT.out i hlt)
      have hSl : (S i).length = i := by rw [HS.out]; exact HLEN.out i (by omega)
      have HSM := Lib.hid (show ∀ x, x ∈ S i → x ∈ xs from fun x hx => HMEM.out i x (by rw [HS.out] at hx; exact hx))
      have hdx : atZ xs i ∈ xs := by rw [← atZ_get hlt]; exact List.getElem_mem hlt
      have HNX := Lib.hid (show S (i + 1) = insL (fun x y => decide (c x y < 0)) (atZ xs i) (S i) from by rw [HS.out]; exact HTI.out)
      have hop : S i ++ xs.drop i = openL (S i) (atZ xs i) i ++ xs.drop (i + 1) := by
        have e1 : openL (S i) (atZ xs i) i = S i ++ [atZ xs i] := by have := openL_full (S i) (atZ xs i); rwa [hSl] at this
        rw [e1, List.append_assoc, List.drop_eq_getElem_cons hlt, atZ_get hlt]; rfl
      rw [hop] at HOWN
      have HR0 := Lib.hid (show insM (fun x y => decide (c x y < 0)) (atZ xs i) (S i) i = insL (fun x y => decide (c x y < 0)) (atZ xs i) (S i) from by unfold insL; rw [hSl])
      have HRL := Lib.hid (show (xs.drop (i + 1)).length + i + 1 = xs.length from by simp; omega)
      clear HTI hop
      generalize S i = l at *
      generalize atZ xs i = d at *
      obtain ⟨rest, hrest⟩ : ∃ r, xs.drop (i + 1) = r := ⟨_, rfl⟩
      rw [hrest] at HOWN HRL
      have HREST := Lib.hid hrest; clear hrest
      generalize insL (fun x y => decide (c x y < 0)) d l = R at *
      go_wp2_with fail
      go_loopw [9] (fun vj wr => ∃ j : Nat, j ≤ i ∧ vj = .int .i64 j ∧ Ints wr B (.slice (some ⟨g, 0, none⟩) xs.length cp) (openL l d j ++ rest) ∧ insM (fun x y => decide (c x y < 0)) d l j = R ∧ Held w0 wr fs) (fun i _ => (intOf i).toNat)
      case atStart => exact ⟨i, Nat.le_refl _, rfl, HOWN.out, HR0.out, HH.out⟩
      case round =>
        clear HOWN HH HR0
        obtain ⟨j, hji, rfl, hown, hR, hh⟩ := hrel
        have HOWN := Lib.hid hown; clear hown
        have HH := Lib.hid hh; clear hh
        have HOL := Lib.hid (show (openL l d j ++ rest).length = xs.length from by rw [List.length_append, openL_len l d j (by omega), hSl]; have := HRL.out; omega)
        obtain ⟨c0, f0, hgl, hgB, -⟩ := HOWN.out.at_ (j := j) (by rw [HOL.out]; omega)
        rw [open_here l rest d j (by omega)] at c0
        cases j with
        | zero =>
          have hfin : openL l d 0 ++ rest = R ++ rest := by rw [← hR, insM_zero]
          have HFIN := Lib.hid hfin; clear hfin
          have H2 := Lib.hid (show Held w0 wr [(g, 0, .int .i64 d)] from ⟨⟨c0, trivial⟩, ⟨hgl, trivial⟩, HH.out.below⟩)
          clear c0 f0
          rw [show ((0 : Nat) : Int) = 0 from rfl]
          obtain ⟨x0, _⟩ := H2.out.1
          go_wp2_with fail
          refine regionW (fun W => ((Held _ W [(g, 0, .int .i64 (d))]) ∧ Ints W B (.slice (some ⟨g, 0, none⟩) xs.length cp) (openL l d 0 ++ rest)) ∧ Held w0 W fs) (by kernel_rfl) ⟨⟨H2.out.drew, (HOWN.out).step ((Below.refl _ _).drew)⟩, (HH.out).step ((Below.refl _ _).drew)⟩ ?_
          refine takeW (i := 0) (v := ?_) (Stable.and (Stable.and (Stable.held _ _) (stable_ints B (.slice (some ⟨g, 0, none⟩) xs.length cp) (openL l d 0 ++ rest))) (Stable.held w0 fs)) rfl (by kernel_rfl) (by kernel_rfl) (by kernel_rfl) (fun _ _ _ h => h) ?_ ?_
          rotate_left
          · first | (refine Or.inl ⟨by rfl, fun W hS => detR_value (w' := W) ?_ (Below.refl _ _)⟩; obtain ⟨⟨hH, q1⟩, q2⟩ := hS; obtain ⟨x0, _⟩ := hH.1; go_simp; first | done | with_reducible rfl) | fail
          simp only [Act.put, List.setIfInBounds_toArray, List.set_cons_zero, List.set_cons_succ]
          refine takeW (i := 1) (v := ?_) (Stable.and (Stable.and (Stable.held _ _) (stable_ints B (.slice (some ⟨g, 0, none⟩) xs.length cp) (openL l d 0 ++ rest))) (Stable.held w0 fs)) rfl (by kernel_rfl) (by kernel_rfl) (by kernel_rfl) (fun _ _ _ h => h) ?_ ?_
          rotate_left
          · first | (refine Or.inl ⟨by rfl, fun W hS => detR_value (w' := W) ?_ (Below.refl _ _)⟩; obtain ⟨⟨hH, q1⟩, q2⟩ := hS; obtain ⟨x0, _⟩ := hH.1; go_simp; first | done | with_reducible rfl) | fail
          simp only [Act.put, List.setIfInBounds_toArray, List.set_cons_zero, List.set_cons_succ]
          refine takeW (i := 2) (v := ?_) (Stable.and (Stable.and (Stable.held _ _) (stable_ints B (.slice (some ⟨g, 0, none⟩) xs.length cp) (openL l d 0 ++ rest))) (Stable.held w0 fs)) rfl (by kernel_rfl) (by kernel_rfl) (by kernel_rfl) (fun _ _ _ h => h) ?_ ?_
          rotate_left
          · first | (refine Or.inl ⟨by rfl, fun W hS => detR_value (w' := W) ?_ (Below.refl _ _)⟩; obtain ⟨⟨hH, q1⟩, q2⟩ := hS; obtain ⟨x0, _⟩ := hH.1; go_simp; first | done | with_reducible rfl) | fail
          simp only [Act.put, List.setIfInBounds_toArray, List.set_cons_zero, List.set_cons_succ]
          refine takeW (i := 3) (v := ?_) (Stable.and (Stable.and (Stable.held _ _) (stable_ints B (.slice (some ⟨g, 0, none⟩) xs.length cp) (openL l d 0 ++ rest))) (Stable.held w0 fs)) rfl (by kernel_rfl) (by kernel_rfl) (by kernel_rfl) (fun _ _ _ h => h) ?_ ?_
          rotate_left
          · first | (refine Or.inl ⟨by rfl, fun W hS => detR_value (w' := W) ?_ (Below.refl _ _)⟩; obtain ⟨⟨hH, q1⟩, q2⟩ := hS; obtain ⟨x0, _⟩ := hH.1; go_simp; first | done | with_reducible rfl) | fail
          simp only [Act.put, List.setIfInBounds_toArray, List.set_cons_zero, List.set_cons_succ]
          refine takeW (i := 4) (v := ?_) (Stable.and (Stable.and (Stable.held _ _) (stable_ints B (.slice (some ⟨g, 0, none⟩) xs.length cp) (openL l d 0 ++ rest))) (Stable.held w0 fs)) rfl (by kernel_rfl) (by kernel_rfl) (by kernel_rfl) (fun _ _ _ h => h) ?_ ?_
          rotate_left
          · first | (refine Or.inr ⟨by rfl, ?_⟩; with_reducible rfl) | (refine Or.inl ⟨by rfl, fun W hS => detR_value (w' := W) ?_ (Below.refl _ _)⟩; obtain ⟨⟨hH, q1⟩, q2⟩ := hS; obtain ⟨x0, _⟩ := hH.1; go_simp; first | done | with_reducible rfl) | fail
          simp only [Act.put, List.setIfInBounds_toArray, List.set_cons_zero, List.set_cons_succ]
          refine takeW (i := 5) (v := ?_) (Stable.and (Stable.and (Stable.held _ _) (stable_ints B (.slice (some ⟨g, 0, none⟩) xs.length cp) (openL l d 0 ++ rest))) (Stable.held w0 fs)) rfl (by kernel_rfl) (by kernel_rfl) (by kernel_rfl) (fun _ _ _ h => h) ?_ ?_
          rotate_left
          · first | (refine Or.inr ⟨by rfl, ?_⟩; with_reducible rfl) | (refine Or.inl ⟨by rfl, fun W hS => detR_value (w' := W) ?_ (Below.refl _ _)⟩; obtain ⟨⟨hH, q1⟩, q2⟩ := hS; obtain ⟨x0, _⟩ := hH.1; go_simp; first | done | with_reducible rfl) | fail
          simp only [Act.put, List.setIfInBounds_toArray, List.set_cons_zero, List.set_cons_succ]
          refine takeW (i := 6) (v := ?_) (Stable.and (Stable.and (Stable.held _ _) (stable_ints B (.slice (some ⟨g, 0, none⟩) xs.length cp) (openL l d 0 ++ rest))) (Stable.held w0 fs)) rfl (by kernel_rfl) (by kernel_rfl) (by kernel_rfl) (fun _ _ _ h => h) ?_ ?_
          rotate_left
          · first | (refine Or.inr ⟨by rfl, ?_⟩; with_reducible rfl) | (refine Or.inl ⟨by rfl, fun W hS => detR_value (w' := W) ?_ (Below.refl _ _)⟩; obtain ⟨⟨hH, q1⟩, q2⟩ := hS; obtain ⟨x0, _⟩ := hH.1; go_simp; first | done | with_reducible rfl) | fail
          simp only [Act.put, List.setIfInBounds_toArray, List.set_cons_zero, List.set_cons_succ]
          refine takeW (i := 7) (v := ?_) (Stable.and (Stable.and (Stable.held _ _) (stable_ints B (.slice (some ⟨g, 0, none⟩) xs.length cp) (openL l d 0 ++ rest))) (Stable.held w0 fs)) rfl (by kernel_rfl) (by kernel_rfl) (by kernel_rfl) (fun _ _ _ h => h) ?_ ?_
          rotate_left
          · first | (refine Or.inr ⟨by rfl, ?_⟩; with_reducible rfl) | (refine Or.inl ⟨by rfl, fun W hS => detR_value (w' := W) ?_ (Below.refl _ _)⟩; obtain ⟨⟨hH, q1⟩, q2⟩ := hS; obtain ⟨x0, _⟩ := hH.1; go_simp; first | done | with_reducible rfl) | fail
          simp only [Act.put, List.setIfInBounds_toArray, List.set_cons_zero, List.set_cons_succ]
          refine takeW (i := 8) (v := ?_) (Stable.and (Stable.and (Stable.held _ _) (stable_ints B (.slice (some ⟨g, 0, none⟩) xs.length cp) (openL l d 0 ++ rest))) (Stable.held w0 fs)) rfl (by kernel_rfl) (by kernel_rfl) (by kernel_rfl) (fun _ _ _ h => h) ?_ ?_
          rotate_left
          · first | (refine Or.inr ⟨by rfl, ?_⟩; with_reducible rfl) | (refine Or.inl ⟨by rfl, fun W hS => detR_value (w' := W) ?_ (Below.refl _ _)⟩; obtain ⟨⟨hH, q1⟩, q2⟩ := hS; obtain ⟨x0, _⟩ := hH.1; go_simp; first | done | with_reducible rfl) | fail
          simp only [Act.put, List.setIfInBounds_toArray, List.set_cons_zero, List.set_cons_succ]
          refine takeW (i := 9) (v := ?_) (Stable.and (Stable.and (Stable.held _ _) (stable_ints B (.slice (some ⟨g, 0, none⟩) xs.length cp) (openL l d 0 ++ rest))) (Stable.held w0 fs)) rfl (by kernel_rfl) (by kernel_rfl) (by kernel_rfl) (fun _ _ _ h => h) ?_ ?_
          rotate_left
          · first | (refine Or.inr ⟨by rfl, ?_⟩; with_reducible rfl) | (refine Or.inl ⟨by rfl, fun W hS => detR_value (w' := W) ?_ (Below.refl _ _)⟩; obtain ⟨⟨hH, q1⟩, q2⟩ := hS; obtain ⟨x0, _⟩ := hH.1; go_simp; first | done | with_reducible rfl) | fail
          simp only [Act.put, List.setIfInBounds_toArray, List.set_cons_zero, List.set_cons_succ]
          refine takeW (i := 10) (v := ?_) (Stable.and (Stable.and (Stable.held _ _) (stable_ints B (.slice (some ⟨g, 0, none⟩) xs.length cp) (openL l d 0 ++ rest))) (Stable.held w0 fs)) rfl (by kernel_rfl) (by kernel_rfl) (by kernel_rfl) (fun _ _ _ h => h) ?_ ?_
          rotate_left
          · first | (refine Or.inr ⟨by rfl, ?_⟩; with_reducible rfl) | (refine Or.inl ⟨by rfl, fun W hS => detR_value (w' := W) ?_ (Below.refl _ _)⟩; obtain ⟨⟨hH, q1⟩, q2⟩ := hS; obtain ⟨x0, _⟩ := hH.1; go_simp; first | done | with_reducible rfl) | fail
          simp only [Act.put, List.setIfInBounds_toArray, List.set_cons_zero, List.set_cons_succ]
          refine takeW (i := 11) (v := ?_) (Stable.and (Stable.and (Stable.held _ _) (stable_ints B (.slice (some ⟨g, 0, none⟩) xs.length cp) (openL l d 0 ++ rest))) (Stable.held w0 fs)) rfl (by kernel_rfl) (by kernel_rfl) (by kernel_rfl) (fun _ _ _ h => h) ?_ ?_
          rotate_left
          · first | (refine Or.inr ⟨by rfl, ?_⟩; with_reducible rfl) | (refine Or.inl ⟨by rfl, fun W hS => detR_value (w' := W) ?_ (Below.refl _ _)⟩; obtain ⟨⟨hH, q1⟩, q2⟩ := hS; obtain ⟨x0, _⟩ := hH.1; go_simp; first | done | with_reducible rfl) | fail
          simp only [Act.put, List.setIfInBounds_toArray, List.set_cons_zero, List.set_cons_succ]
          refine takeW (i := 12) (v := ?_) (Stable.and (Stable.and (Stable.held _ _) (stable_ints B (.slice (some ⟨g, 0, none⟩) xs.length cp) (openL l d 0 ++ rest))) (Stable.held w0 fs)) rfl (by kernel_rfl) (by kernel_rfl) (by kernel_rfl) (fun _ _ _ h => h) ?_ ?_
          rotate_left
          · first | (refine Or.inr ⟨by rfl, ?_⟩; with_reducible rfl) | (refine Or.inl ⟨by rfl, fun W hS => detR_value (w' := W) ?_ (Below.refl _ _)⟩; obtain ⟨⟨hH, q1⟩, q2⟩ := hS; obtain ⟨x0, _⟩ := hH.1; go_simp; first | done | with_reducible rfl) | fail
          simp only [Act.put, List.setIfInBounds_toArray, List.set_cons_zero, List.set_cons_succ]
          refine takeW (i := 13) (v := ?_) (Stable.and (Stable.and (Stable.held _ _) (stable_ints B (.slice (some ⟨g, 0, none⟩) xs.length cp) (openL l d 0 ++ rest))) (Stable.held w0 fs)) rfl (by kernel_rfl) (by kernel_rfl) (by kernel_rfl) (fun _ _ _ h => h) ?_ ?_
          rotate_left
          · first | (refine Or.inr ⟨by rfl, ?_⟩; with_reducible rfl) | (refine Or.inl ⟨by rfl, fun W hS => detR_value (w' := W) ?_ (Below.refl _ _)⟩; obtain ⟨⟨hH, q1⟩, q2⟩ := hS; obtain ⟨x0, _⟩ := hH.1; go_simp; first | done | with_reducible rfl) | fail
          simp only [Act.put, List.setIfInBounds_toArray, List.set_cons_zero, List.set_cons_succ]
          refine takeW (i := 14) (v := ?_) (Stable.and (Stable.and (Stable.held _ _) (stable_ints B (.slice (some ⟨g, 0, none⟩) xs.length cp) (openL l d 0 ++ rest))) (Stable.held w0 fs)) rfl (by kernel_rfl) (by kernel_rfl) (by kernel_rfl) (fun _ _ _ h => h) ?_ ?_
          rotate_left
          · first | (refine Or.inr ⟨by rfl, ?_⟩; with_reducible rfl) | (refine Or.inl ⟨by rfl, fun W hS => ?_⟩; obtain ⟨⟨hH, q1⟩, q2⟩ := hS; refine detR_call (w' := W) (f := ?_) (args := ?_) ?_ ?_; rotate_left 2; (go_simp; (refine ⟨?_, ?_⟩ <;> with_reducible rfl)); (first | (with_reducible refine (HC.out W 0 0 hno hno q2).mono ?_) | fail); (first | (rintro e wn ⟨rfl, hb⟩; refine ⟨?_, hb⟩; with_reducible rfl) | (rintro e wn ⟨rfl, rfl⟩; refine ⟨?_, Below.refl _ _⟩; with_reducible rfl) | fail)) | fail
          simp only [Act.put, List.setIfInBounds_toArray, List.set_cons_zero, List.set_cons_succ]
          refine takeW (i := 15) (v := ?_) (Stable.and (Stable.and (Stable.held _ _) (stable_ints B (.slice (some ⟨g, 0, none⟩) xs.length cp) (openL l d 0 ++ rest))) (Stable.held w0 fs)) rfl (by kernel_rfl) (by kernel_rfl) (by kernel_rfl) (fun _ _ _ h => h) ?_ ?_
          rotate_left
          · first | (refine Or.inr ⟨by rfl, ?_⟩; with_reducible rfl) | (refine Or.inl ⟨by rfl, fun W hS => detR_value (w' := W) ?_ (Below.refl _ _)⟩; obtain ⟨⟨hH, q1⟩, q2⟩ := hS; obtain ⟨x0, _⟩ := hH.1; go_simp; first | done | with_reducible rfl) | fail
          simp only [Act.put, List.setIfInBounds_toArray, List.set_cons_zero, List.set_cons_succ]
          refine takeW (i := 16) (v := ?_) (Stable.and (Stable.and (Stable.held _ _) (stable_ints B (.slice (some ⟨g, 0, none⟩) xs.length cp) (openL l d 0 ++ rest))) (Stable.held w0 fs)) rfl (by kernel_rfl) (by kernel_rfl) (by kernel_rfl) (fun _ _ _ h => h) ?_ ?_
          rotate_left
          · first | (refine Or.inl ⟨by rfl, fun W hS => detR_value (w' := W) ?_ (Below.refl _ _)⟩; obtain ⟨⟨hH, q1⟩, q2⟩ := hS; obtain ⟨x0, _⟩ := hH.1; go_simp; first | done | with_reducible rfl) | fail
          simp only [Act.put, List.setIfInBounds_toArray, List.set_cons_zero, List.set_cons_succ]
          refine doneW (by kernel_rfl) fun wH3 HG => ?_
          obtain ⟨⟨hH, q1⟩, q2⟩ := HG
          have H3 := Lib.hid hH; clear hH
          have MH3_q1 := Lib.hid q1; clear q1
          have MH3_q2 := Lib.hid q2; clear q2
          try clear x0
          obtain ⟨x0, _⟩ := H3.out.1
          go_wp2_with fail
          exact ⟨⟨i + 1, by omega, .inl (by omega), by go_num, by rw [HNX.out, HREST.out, ← HFIN.out]; exact MH3_q1.out, MH3_q2.out⟩, by simp [intOf]; omega⟩
        | succ q =>
          obtain ⟨c1, f1, -, -, -⟩ := HOWN.out.at_ (j := q) (by rw [HOL.out]; omega)
          rw [open_prev l rest d q (by omega)] at c1
          have hlq : atZ l q ∈ xs := HSM.out _ (by rw [← atZ_get (by omega)]; exact List.getElem_mem (by omega))
          have HON := Lib.hid (insM_on (fun x y => decide (c x y < 0)) d l q)
          have HSTOP := Lib.hid (insM_stop (fun x y => decide (c x y < 0)) d l q)
          have HSW := Lib.hid (open_swap l rest d q (by omega))
          have HCC := Lib.hid (fun W h => HC.out W d (atZ l q) hdx hlq h)
          have HR1 := Lib.hid hR; clear hR hlq
          generalize hlqv : atZ l q = lq at *
          have HLQ := Lib.hid hlqv; clear hlqv
          have H2 := Lib.hid (show Held w0 wr [(g, q + 1, .int .i64 d), (g, q, .int .i64 lq)] from ⟨⟨c0, c1, trivial⟩, ⟨hgl, hgl, trivial⟩, HH.out.below⟩)
          clear c0 f0 c1 f1
          have p1 : (0 : Int) ≤ (q : Int) := by omega
          have p2' : (q : Int) < (xs.length : Int) := by omega
          have p3' : (q : Int) + 1 < (xs.length : Int) := by omega
          have p4' : (0 : Int) ≤ (q : Int) + 1 := by omega
          have p5 : (0 : Int) < (q : Int) + 1 := by omega
          have ew : IntKind.i64.wrap (q : Int) = (q : Int) := by rw [IntWalk.i64_in _ (by omega)]
          rw [show ((q + 1 : Nat) : Int) = (q : Int) + 1 from by omega]
          obtain ⟨x0, x1, _⟩ := H2.out.1
          by_cases hc : c d lq < 0
          · have HQ := Lib.hid hc
            generalize c d lq = cv at *
            go_wp2_with fail
            refine regionW (fun W => ((Held _ W [(g, q + 1, .int .i64 (d)), (g, q, .int .i64 (lq))]) ∧ Ints W B (.slice (some ⟨g, 0, none⟩) xs.length cp) (openL l d (q + 1) ++ rest)) ∧ Held w0 W fs) (by kernel_rfl) ⟨⟨H2.out.drew, (HOWN.out).step ((Below.refl _ _).drew)⟩, (HH.out).step ((Below.refl _ _).drew)⟩ ?_
            refine takeW (i := 0) (v := ?_) (Stable.and (Stable.and (Stable.held _ _) (stable_ints B (.slice (some ⟨g, 0, none⟩) xs.length cp) (openL l d (q + 1) ++ rest))) (Stable.held w0 fs)) rfl (by kernel_rfl) (by kernel_rfl) (by kernel_rfl) (fun _ _ _ h => h) ?_ ?_
            rotate_left
            · first | (refine Or.inl ⟨by rfl, fun W hS => detR_value (w' := W) ?_ (Below.refl _ _)⟩; obtain ⟨⟨hH, q1⟩, q2⟩ := hS; obtain ⟨x0, x1, _⟩ := hH.1; go_simp; first | done | with_reducible rfl) | fail
            simp only [Act.put, List.setIfInBounds_toArray, List.set_cons_zero, List.set_cons_succ]
            refine takeW (i := 1) (v := ?_) (Stable.and (Stable.and (Stable.held _ _) (stable_ints B (.slice (some ⟨g, 0, none⟩) xs.length cp) (openL l d (q + 1) ++ rest))) (Stable.held w0 fs)) rfl (by kernel_rfl) (by kernel_rfl) (by kernel_rfl) (fun _ _ _ h => h) ?_ ?_
            rotate_left
            · first | (refine Or.inl ⟨by rfl, fun W hS => detR_value (w' := W) ?_ (Below.refl _ _)⟩; obtain ⟨⟨hH, q1⟩, q2⟩ := hS; obtain ⟨x0, x1, _⟩ := hH.1; go_simp; first | done | with_reducible rfl) | fail
            simp only [Act.put, List.setIfInBounds_toArray, List.set_cons_zero, List.set_cons_succ]
            refine takeW (i := 2) (v := ?_) (Stable.and (Stable.and (Stable.held _ _) (stable_ints B (.slice (some ⟨g, 0, none⟩) xs.length cp) (openL l d (q + 1) ++ rest))) (Stable.held w0 fs)) rfl (by kernel_rfl) (by kernel_rfl) (by kernel_rfl) (fun _ _ _ h => h) ?_ ?_
            rotate_left
            · first | (refine Or.inl ⟨by rfl, fun W hS => detR_value (w' := W) ?_ (Below.refl _ _)⟩; obtain ⟨⟨hH, q1⟩, q2⟩ := hS; obtain ⟨x0, x1, _⟩ := hH.1; go_simp; first | done | with_reducible rfl) | fail
            simp only [Act.put, List.setIfInBounds_toArray, List.set_cons_zero, List.set_cons_succ]
            refine takeW (i := 3) (v := ?_) (Stable.and (Stable.and (Stable.held _ _) (stable_ints B (.slice (some ⟨g, 0, none⟩) xs.length cp) (openL l d (q + 1) ++ rest))) (Stable.held w0 fs)) rfl (by kernel_rfl) (by kernel_rfl) (by kernel_rfl) (fun _ _ _ h => h) ?_ ?_
            rotate_left
            · first | (refine Or.inl ⟨by rfl, fun W hS => detR_value (w' := W) ?_ (Below.refl _ _)⟩; obtain ⟨⟨hH, q1⟩, q2⟩ := hS; obtain ⟨x0, x1, _⟩ := hH.1; go_simp; first | done | with_reducible rfl) | fail
            simp only [Act.put, List.setIfInBounds_toArray, List.set_cons_zero, List.set_cons_succ]
            refine takeW (i := 4) (v := ?_) (Stable.and (Stable.and (Stable.held _ _) (stable_ints B (.slice (some ⟨g, 0, none⟩) xs.length cp) (openL l d (q + 1) ++ rest))) (Stable.held w0 fs)) rfl (by kernel_rfl) (by kernel_rfl) (by kernel_rfl) (fun _ _ _ h => h) ?_ ?_
            rotate_left
            · first | (refine Or.inr ⟨by rfl, ?_⟩; with_reducible rfl) | (refine Or.inl ⟨by rfl, fun W hS => detR_value (w' := W) ?_ (Below.refl _ _)⟩; obtain ⟨⟨hH, q1⟩, q2⟩ := hS; obtain ⟨x0, x1, _⟩ := hH.1; go_simp; first | done | with_reducible rfl) | fail
            simp only [Act.put, List.setIfInBounds_toArray, List.set_cons_zero, List.set_cons_succ]
            refine takeW (i := 5) (v := ?_) (Stable.and (Stable.and (Stable.held _ _) (stable_ints B (.slice (some ⟨g, 0, none⟩) xs.length cp) (openL l d (q + 1) ++ rest))) (Stable.held w0 fs)) rfl (by kernel_rfl) (by kernel_rfl) (by kernel_rfl) (fun _ _ _ h => h) ?_ ?_
            rotate_left
            · first | (refine Or.inr ⟨by rfl, ?_⟩; with_reducible rfl) | (refine Or.inl ⟨by rfl, fun W hS => detR_value (w' := W) ?_ (Below.refl _ _)⟩; obtain ⟨⟨hH, q1⟩, q2⟩ := hS; obtain ⟨x0, x1, _⟩ := hH.1; go_simp; first | done | with_reducible rfl) | fail
            simp only [Act.put, List.setIfInBounds_toArray, List.set_cons_zero, List.set_cons_succ]
            refine takeW (i := 6) (v := ?_) (Stable.and (Stable.and (Stable.held _ _) (stable_ints B (.slice (some ⟨g, 0, none⟩) xs.length cp) (openL l d (q + 1) ++ rest))) (Stable.held w0 fs)) rfl (by kernel_rfl) (by kernel_rfl) (by kernel_rfl) (fun _ _ _ h => h) ?_ ?_
            rotate_left
            · first | (refine Or.inr ⟨by rfl, ?_⟩; with_reducible rfl) | (refine Or.inl ⟨by rfl, fun W hS => detR_value (w' := W) ?_ (Below.refl _ _)⟩; obtain ⟨⟨hH, q1⟩, q2⟩ := hS; obtain ⟨x0, x1, _⟩ := hH.1; go_simp; first | done | with_reducible rfl) | fail
            simp only [Act.put, List.setIfInBounds_toArray, List.set_cons_zero, List.set_cons_succ]
            refine takeW (i := 7) (v := ?_) (Stable.and (Stable.and (Stable.held _ _) (stable_ints B (.slice (some ⟨g, 0, none⟩) xs.length cp) (openL l d (q + 1) ++ rest))) (Stable.held w0 fs)) rfl (by kernel_rfl) (by kernel_rfl) (by kernel_rfl) (fun _ _ _ h => h) ?_ ?_
            rotate_left
            · first | (refine Or.inr ⟨by rfl, ?_⟩; with_reducible rfl) | (refine Or.inl ⟨by rfl, fun W hS => detR_value (w' := W) ?_ (Below.refl _ _)⟩; obtain ⟨⟨hH, q1⟩, q2⟩ := hS; obtain ⟨x0, x1, _⟩ := hH.1; go_simp; first | done | with_reducible rfl) | fail
            simp only [Act.put, List.setIfInBounds_toArray, List.set_cons_zero, List.set_cons_succ]
            refine takeW (i := 8) (v := ?_) (Stable.and (Stable.and (Stable.held _ _) (stable_ints B (.slice (some ⟨g, 0, none⟩) xs.length cp) (openL l d (q + 1) ++ rest))) (Stable.held w0 fs)) rfl (by kernel_rfl) (by kernel_rfl) (by kernel_rfl) (fun _ _ _ h => h) ?_ ?_
            rotate_left
            · first | (refine Or.inr ⟨by rfl, ?_⟩; with_reducible rfl) | (refine Or.inl ⟨by rfl, fun W hS => detR_value (w' := W) ?_ (Below.refl _ _)⟩; obtain ⟨⟨hH, q1⟩, q2⟩ := hS; obtain ⟨x0, x1, _⟩ := hH.1; go_simp; first | done | with_reducible rfl) | fail
            simp only [Act.put, List.setIfInBounds_toArray, List.set_cons_zero, List.set_cons_succ]
            refine takeW (i := 9) (v := ?_) (Stable.and (Stable.and (Stable.held _ _) (stable_ints B (.slice (some ⟨g, 0, none⟩) xs.length cp) (openL l d (q + 1) ++ rest))) (Stable.held w0 fs)) rfl (by kernel_rfl) (by kernel_rfl) (by kernel_rfl) (fun _ _ _ h => h) ?_ ?_
            rotate_left
            · first | (refine Or.inr ⟨by rfl, ?_⟩; with_reducible rfl) | (refine Or.inl ⟨by rfl, fun W hS => detR_value (w' := W) ?_ (Below.refl _ _)⟩; obtain ⟨⟨hH, q1⟩, q2⟩ := hS; obtain ⟨x0, x1, _⟩ := hH.1; go_simp; first | done | with_reducible rfl) | fail
            simp only [Act.put, List.setIfInBounds_toArray, List.set_cons_zero, List.set_cons_succ]
            refine takeW (i := 10) (v := ?_) (Stable.and (Stable.and (Stable.held _ _) (stable_ints B (.slice (some ⟨g, 0, none⟩) xs.length cp) (openL l d (q + 1) ++ rest))) (Stable.held w0 fs)) rfl (by kernel_rfl) (by kernel_rfl) (by kernel_rfl) (fun _ _ _ h => h) ?_ ?_
            rotate_left
            · first | (refine Or.inr ⟨by rfl, ?_⟩; with_reducible rfl) | (refine Or.inl ⟨by rfl, fun W hS => detR_value (w' := W) ?_ (Below.refl _ _)⟩; obtain ⟨⟨hH, q1⟩, q2⟩ := hS; obtain ⟨x0, x1, _⟩ := hH.1; go_simp; first | done | with_reducible rfl) | fail
            simp only [Act.put, List.setIfInBounds_toArray, List.set_cons_zero, List.set_cons_succ]
            refine takeW (i := 11) (v := ?_) (Stable.and (Stable.and (Stable.held _ _) (stable_ints B (.slice (some ⟨g, 0, none⟩) xs.length cp) (openL l d (q + 1) ++ rest))) (Stable.held w0 fs)) rfl (by kernel_rfl) (by kernel_rfl) (by kernel_rfl) (fun _ _ _ h => h) ?_ ?_
            rotate_left
            · first | (refine Or.inr ⟨by rfl, ?_⟩; with_reducible rfl) | (refine Or.inl ⟨by rfl, fun W hS => detR_value (w' := W) ?_ (Below.refl _ _)⟩; obtain ⟨⟨hH, q1⟩, q2⟩ := hS; obtain ⟨x0, x1, _⟩ := hH.1; go_simp; first | done | with_reducible rfl) | fail
            simp only [Act.put, List.setIfInBounds_toArray, List.set_cons_zero, List.set_cons_succ]
            refine takeW (i := 12) (v := ?_) (Stable.and (Stable.and (Stable.held _ _) (stable_ints B (.slice (some ⟨g, 0, none⟩) xs.length cp) (openL l d (q + 1) ++ rest))) (Stable.held w0 fs)) rfl (by kernel_rfl) (by kernel_rfl) (by kernel_rfl) (fun _ _ _ h => h) ?_ ?_
            rotate_left
            · first | (refine Or.inr ⟨by rfl, ?_⟩; with_reducible rfl) | (refine Or.inl ⟨by rfl, fun W hS => detR_value (w' := W) ?_ (Below.refl _ _)⟩; obtain ⟨⟨hH, q1⟩, q2⟩ := hS; obtain ⟨x0, x1, _⟩ := hH.1; go_simp; first | done | with_reducible rfl) | fail
            simp only [Act.put, List.setIfInBounds_toArray, List.set_cons_zero, List.set_cons_succ]
            refine takeW (i := 13) (v := ?_) (Stable.and (Stable.and (Stable.held _ _) (stable_ints B (.slice (some ⟨g, 0, none⟩) xs.length cp) (openL l d (q + 1) ++ rest))) (Stable.held w0 fs)) rfl (by kernel_rfl) (by kernel_rfl) (by kernel_rfl) (fun _ _ _ h => h) ?_ ?_
            rotate_left
            · first | (refine Or.inr ⟨by rfl, ?_⟩; with_reducible rfl) | (refine Or.inl ⟨by rfl, fun W hS => detR_value (w' := W) ?_ (Below.refl _ _)⟩; obtain ⟨⟨hH, q1⟩, q2⟩ := hS; obtain ⟨x0, x1, _⟩ := hH.1; go_simp; first | done | with_reducible rfl) | fail
            simp only [Act.put, List.setIfInBounds_toArray, List.set_cons_zero, List.set_cons_succ]
            refine takeW (i := 14) (v := ?_) (Stable.and (Stable.and (Stable.held _ _) (stable_ints B (.slice (some ⟨g, 0, none⟩) xs.length cp) (openL l d (q + 1) ++ rest))) (Stable.held w0 fs)) rfl (by kernel_rfl) (by kernel_rfl) (by kernel_rfl) (fun _ _ _ h => h) ?_ ?_
            rotate_left
            · first | (refine Or.inr ⟨by rfl, ?_⟩; with_reducible rfl) | (refine Or.inl ⟨by rfl, fun W hS => ?_⟩; obtain ⟨⟨hH, q1⟩, q2⟩ := hS; refine detR_call (w' := W) (f := ?_) (args := ?_) ?_ ?_; rotate_left 2; (go_simp; (refine ⟨?_, ?_⟩ <;> with_reducible rfl)); (first | (with_reducible refine (HCC.out W q2).mono ?_) | fail); (first | (rintro e wn ⟨rfl, hb⟩; refine ⟨?_, hb⟩; with_reducible rfl) | (rintro e wn ⟨rfl, rfl⟩; refine ⟨?_, Below.refl _ _⟩; with_reducible rfl) | fail)) | fail
            simp only [Act.put, List.setIfInBounds_toArray, List.set_cons_zero, List.set_cons_succ]
            refine takeW (i := 15) (v := ?_) (Stable.and (Stable.and (Stable.held _ _) (stable_ints B (.slice (some ⟨g, 0, none⟩) xs.length cp) (openL l d (q + 1) ++ rest))) (Stable.held w0 fs)) rfl (by kernel_rfl) (by kernel_rfl) (by kernel_rfl) (fun _ _ _ h => h) ?_ ?_
            rotate_left
            · first | (refine Or.inr ⟨by rfl, ?_⟩; with_reducible rfl) | (refine Or.inl ⟨by rfl, fun W hS => detR_value (w' := W) ?_ (Below.refl _ _)⟩; obtain ⟨⟨hH, q1⟩, q2⟩ := hS; obtain ⟨x0, x1, _⟩ := hH.1; go_simp; first | done | with_reducible rfl) | fail
            simp only [Act.put, List.setIfInBounds_toArray, List.set_cons_zero, List.set_cons_succ]
            refine takeW (i := 16) (v := ?_) (Stable.and (Stable.and (Stable.held _ _) (stable_ints B (.slice (some ⟨g, 0, none⟩) xs.length cp) (openL l d (q + 1) ++ rest))) (Stable.held w0 fs)) rfl (by kernel_rfl) (by kernel_rfl) (by kernel_rfl) (fun _ _ _ h => h) ?_ ?_
            rotate_left
            · first | (refine Or.inl ⟨by rfl, fun W hS => detR_value (w' := W) ?_ (Below.refl _ _)⟩; obtain ⟨⟨hH, q1⟩, q2⟩ := hS; obtain ⟨x0, x1, _⟩ := hH.1; go_simp; first | done | with_reducible rfl) | fail
            simp only [Act.put, List.setIfInBounds_toArray, List.set_cons_zero, List.set_cons_succ]
            refine doneW (by kernel_rfl) fun wH3 HG => ?_
            obtain ⟨⟨hH, q1⟩, q2⟩ := HG
            have H3 := Lib.hid hH; clear hH
            have MH3_q1 := Lib.hid q1; clear q1
            have MH3_q2 := Lib.hid q2; clear q2
            try clear x0 x1
            obtain ⟨x0, x1, _⟩ := H3.out.1
            go_wp2_with fail
            obtain ⟨-, f1, hgl3, -, -⟩ := MH3_q1.out.at_ (j := q + 1) (by rw [HOL.out]; omega)
            obtain ⟨-, f0, -, -, -⟩ := MH3_q1.out.at_ (j := q) (by rw [HOL.out]; omega)
            obtain ⟨j1, hj1⟩ : ∃ j1, j1 = q + 1 := ⟨_, rfl⟩
            have e0 : ((q : Int) + 1).toNat = j1 := by omega
            rw [← hj1] at x0 f1
            have J1 := Lib.hid hj1; clear hj1
            go_big_region
            all_goals go_wp2_with fail
            have hs1 := MH3_q1.out.set_ HOL.out.symm (q + 1) lq
            have hs2 := hs1.set_ (by rw [List.length_set]; exact HOL.out.symm) q d
            rw [HSW.out] at hs2
            have HS2 := Lib.hid (hs2.step ((Below.refl _ _).drew))
            have HH2 := Lib.hid (((MH3_q2.out.setB (j := q + 1) (x := .int .i64 lq) HFS.out hgB hB).setB (j := q) (x := .int .i64 d) HFS.out hgB hB).drew)
            have HN := Lib.hid (HON.out (decide_eq_true HQ.out))
            clear hs1 hs2
            rw [J1.out]
            exact ⟨⟨q, by omega, rfl, HS2.out, HN.out.symm.trans HR1.out, HH2.out⟩, by simp [intOf]⟩
          · have HQ := Lib.hid hc
            have hc2 : ¬ c d lq < 0 := hc
            generalize c d lq = cv at *
            go_wp2_with fail
            refine regionW (fun W => ((Held _ W [(g, q + 1, .int .i64 (d)), (g, q, .int .i64 (lq))]) ∧ Ints W B (.slice (some ⟨g, 0, none⟩) xs.length cp) (openL l d (q + 1) ++ rest)) ∧ Held w0 W fs) (by kernel_rfl) ⟨⟨H2.out.drew, (HOWN.out).step ((Below.refl _ _).drew)⟩, (HH.out).step ((Below.refl _ _).drew)⟩ ?_
            refine takeW (i := 0) (v := ?_) (Stable.and (Stable.and (Stable.held _ _) (stable_ints B (.slice (some ⟨g, 0, none⟩) xs.length cp) (openL l d (q + 1) ++ rest))) (Stable.held w0 fs)) rfl (by kernel_rfl) (by kernel_rfl) (by kernel_rfl) (fun _ _ _ h => h) ?_ ?_
            rotate_left
            · first | (refine Or.inl ⟨by rfl, fun W hS => detR_value (w' := W) ?_ (Below.refl _ _)⟩; obtain ⟨⟨hH, q1⟩, q2⟩ := hS; obtain ⟨x0, x1, _⟩ := hH.1; go_simp; first | done | with_reducible rfl) | fail
            simp only [Act.put, List.setIfInBounds_toArray, List.set_cons_zero, List.set_cons_succ]
            refine takeW (i := 1) (v := ?_) (Stable.and (Stable.and (Stable.held _ _) (stable_ints B (.slice (some ⟨g, 0, none⟩) xs.length cp) (openL l d (q + 1) ++ rest))) (Stable.held w0 fs)) rfl (by kernel_rfl) (by kernel_rfl) (by kernel_rfl) (fun _ _ _ h => h) ?_ ?_
            rotate_left
            · first | (refine Or.inl ⟨by rfl, fun W hS => detR_value (w' := W) ?_ (Below.refl _ _)⟩; obtain ⟨⟨hH, q1⟩, q2⟩ := hS; obtain ⟨x0, x1, _⟩ := hH.1; go_simp; first | done | with_reducible rfl) | fail
            simp only [Act.put, List.setIfInBounds_toArray, List.set_cons_zero, List.set_cons_succ]
            refine takeW (i := 2) (v := ?_) (Stable.and (Stable.and (Stable.held _ _) (stable_ints B (.slice (some ⟨g, 0, none⟩) xs.length cp) (openL l d (q + 1) ++ rest))) (Stable.held w0 fs)) rfl (by kernel_rfl) (by kernel_rfl) (by kernel_rfl) (fun _ _ _ h => h) ?_ ?_
            rotate_left
            · first | (refine Or.inl ⟨by rfl, fun W hS => detR_value (w' := W) ?_ (Below.refl _ _)⟩; obtain ⟨⟨hH, q1⟩, q2⟩ := hS; obtain ⟨x0, x1, _⟩ := hH.1; go_simp; first | done | with_reducible rfl) | fail
            simp only [Act.put, List.setIfInBounds_toArray, List.set_cons_zero, List.set_cons_succ]
            refine takeW (i := 3) (v := ?_) (Stable.and (Stable.and (Stable.held _ _) (stable_ints B (.slice (some ⟨g, 0, none⟩) xs.length cp) (openL l d (q + 1) ++ rest))) (Stable.held w0 fs)) rfl (by kernel_rfl) (by kernel_rfl) (by kernel_rfl) (fun _ _ _ h => h) ?_ ?_
            rotate_left
            · first | (refine Or.inl ⟨by rfl, fun W hS => detR_value (w' := W) ?_ (Below.refl _ _)⟩; obtain ⟨⟨hH, q1⟩, q2⟩ := hS; obtain ⟨x0, x1, _⟩ := hH.1; go_simp; first | done | with_reducible rfl) | fail
            simp only [Act.put, List.setIfInBounds_toArray, List.set_cons_zero, List.set_cons_succ]
            refine takeW (i := 4) (v := ?_) (Stable.and (Stable.and (Stable.held _ _) (stable_ints B (.slice (some ⟨g, 0, none⟩) xs.length cp) (openL l d (q + 1) ++ rest))) (Stable.held w0 fs)) rfl (by kernel_rfl) (by kernel_rfl) (by kernel_rfl) (fun _ _ _ h => h) ?_ ?_
            rotate_left
            · first | (refine Or.inr ⟨by rfl, ?_⟩; with_reducible rfl) | (refine Or.inl ⟨by rfl, fun W hS => detR_value (w' := W) ?_ (Below.refl _ _)⟩; obtain ⟨⟨hH, q1⟩, q2⟩ := hS; obtain ⟨x0, x1, _⟩ := hH.1; go_simp; first | done | with_reducible rfl) | fail
            simp only [Act.put, List.setIfInBounds_toArray, List.set_cons_zero, List.set_cons_succ]
            refine takeW (i := 5) (v := ?_) (Stable.and (Stable.and (Stable.held _ _) (stable_ints B (.slice (some ⟨g, 0, none⟩) xs.length cp) (openL l d (q + 1) ++ rest))) (Stable.held w0 fs)) rfl (by kernel_rfl) (by kernel_rfl) (by kernel_rfl) (fun _ _ _ h => h) ?_ ?_
            rotate_left
            · first | (refine Or.inr ⟨by rfl, ?_⟩; with_reducible rfl) | (refine Or.inl ⟨by rfl, fun W hS => detR_value (w' := W) ?_ (Below.refl _ _)⟩; obtain ⟨⟨hH, q1⟩, q2⟩ := hS; obtain ⟨x0, x1, _⟩ := hH.1; go_simp; first | done | with_reducible rfl) | fail
            simp only [Act.put, List.setIfInBounds_toArray, List.set_cons_zero, List.set_cons_succ]
            refine takeW (i := 6) (v := ?_) (Stable.and (Stable.and (Stable.held _ _) (stable_ints B (.slice (some ⟨g, 0, none⟩) xs.length cp) (openL l d (q + 1) ++ rest))) (Stable.held w0 fs)) rfl (by kernel_rfl) (by kernel_rfl) (by kernel_rfl) (fun _ _ _ h => h) ?_ ?_
            rotate_left
            · first | (refine Or.inr ⟨by rfl, ?_⟩; with_reducible rfl) | (refine Or.inl ⟨by rfl, fun W hS => detR_value (w' := W) ?_ (Below.refl _ _)⟩; obtain ⟨⟨hH, q1⟩, q2⟩ := hS; obtain ⟨x0, x1, _⟩ := hH.1; go_simp; first | done | with_reducible rfl) | fail
            simp only [Act.put, List.setIfInBounds_toArray, List.set_cons_zero, List.set_cons_succ]
            refine takeW (i := 7) (v := ?_) (Stable.and (Stable.and (Stable.held _ _) (stable_ints B (.slice (some ⟨g, 0, none⟩) xs.length cp) (openL l d (q + 1) ++ rest))) (Stable.held w0 fs)) rfl (by kernel_rfl) (by kernel_rfl) (by kernel_rfl) (fun _ _ _ h => h) ?_ ?_
            rotate_left
            · first | (refine Or.inr ⟨by rfl, ?_⟩; with_reducible rfl) | (refine Or.inl ⟨by rfl, fun W hS => detR_value (w' := W) ?_ (Below.refl _ _)⟩; obtain ⟨⟨hH, q1⟩, q2⟩ := hS; obtain ⟨x0, x1, _⟩ := hH.1; go_simp; first | done | with_reducible rfl) | fail
            simp only [Act.put, List.setIfInBounds_toArray, List.set_cons_zero, List.set_cons_succ]
            refine takeW (i := 8) (v := ?_) (Stable.and (Stable.and (Stable.held _ _) (stable_ints B (.slice (some ⟨g, 0, none⟩) xs.length cp) (openL l d (q + 1) ++ rest))) (Stable.held w0 fs)) rfl (by kernel_rfl) (by kernel_rfl) (by kernel_rfl) (fun _ _ _ h => h) ?_ ?_
            rotate_left
            · first | (refine Or.inr ⟨by rfl, ?_⟩; with_reducible rfl) | (refine Or.inl ⟨by rfl, fun W hS => detR_value (w' := W) ?_ (Below.refl _ _)⟩; obtain ⟨⟨hH, q1⟩, q2⟩ := hS; obtain ⟨x0, x1, _⟩ := hH.1; go_simp; first | done | with_reducible rfl) | fail
            simp only [Act.put, List.setIfInBounds_toArray, List.set_cons_zero, List.set_cons_succ]
            refine takeW (i := 9) (v := ?_) (Stable.and (Stable.and (Stable.held _ _) (stable_ints B (.slice (some ⟨g, 0, none⟩) xs.length cp) (openL l d (q + 1) ++ rest))) (Stable.held w0 fs)) rfl (by kernel_rfl) (by kernel_rfl) (by kernel_rfl) (fun _ _ _ h => h) ?_ ?_
            rotate_left
            · first | (refine Or.inr ⟨by rfl, ?_⟩; with_reducible rfl) | (refine Or.inl ⟨by rfl, fun W hS => detR_value (w' := W) ?_ (Below.refl _ _)⟩; obtain ⟨⟨hH, q1⟩, q2⟩ := hS; obtain ⟨x0, x1, _⟩ := hH.1; go_simp; first | done | with_reducible rfl) | fail
            simp only [Act.put, List.setIfInBounds_toArray, List.set_cons_zero, List.set_cons_succ]
            refine takeW (i := 10) (v := ?_) (Stable.and (Stable.and (Stable.held _ _) (stable_ints B (.slice (some ⟨g, 0, none⟩) xs.length cp) (openL l d (q + 1) ++ rest))) (Stable.held w0 fs)) rfl (by kernel_rfl) (by kernel_rfl) (by kernel_rfl) (fun _ _ _ h => h) ?_ ?_
            rotate_left
            · first | (refine Or.inr ⟨by rfl, ?_⟩; with_reducible rfl) | (refine Or.inl ⟨by rfl, fun W hS => detR_value (w' := W) ?_ (Below.refl _ _)⟩; obtain ⟨⟨hH, q1⟩, q2⟩ := hS; obtain ⟨x0, x1, _⟩ := hH.1; go_simp; first | done | with_reducible rfl) | fail
            simp only [Act.put, List.setIfInBounds_toArray, List.set_cons_zero, List.set_cons_succ]
            refine takeW (i := 11) (v := ?_) (Stable.and (Stable.and (Stable.held _ _) (stable_ints B (.slice (some ⟨g, 0, none⟩) xs.length cp) (openL l d (q + 1) ++ rest))) (Stable.held w0 fs)) rfl (by kernel_rfl) (by kernel_rfl) (by kernel_rfl) (fun _ _ _ h => h) ?_ ?_
            rotate_left
            · first | (refine Or.inr ⟨by rfl, ?_⟩; with_reducible rfl) | (refine Or.inl ⟨by rfl, fun W hS => detR_value (w' := W) ?_ (Below.refl _ _)⟩; obtain ⟨⟨hH, q1⟩, q2⟩ := hS; obtain ⟨x0, x1, _⟩ := hH.1; go_simp; first | done | with_reducible rfl) | fail
            simp only [Act.put, List.setIfInBounds_toArray, List.set_cons_zero, List.set_cons_succ]
            refine takeW (i := 12) (v := ?_) (Stable.and (Stable.and (Stable.held _ _) (stable_ints B (.slice (some ⟨g, 0, none⟩) xs.length cp) (openL l d (q + 1) ++ rest))) (Stable.held w0 fs)) rfl (by kernel_rfl) (by kernel_rfl) (by kernel_rfl) (fun _ _ _ h => h) ?_ ?_
            rotate_left
            · first | (refine Or.inr ⟨by rfl, ?_⟩; with_reducible rfl) | (refine Or.inl ⟨by rfl, fun W hS => detR_value (w' := W) ?_ (Below.refl _ _)⟩; obtain ⟨⟨hH, q1⟩, q2⟩ := hS; obtain ⟨x0, x1, _⟩ := hH.1; go_simp; first | done | with_reducible rfl) | fail
            simp only [Act.put, List.setIfInBounds_toArray, List.set_cons_zero, List.set_cons_succ]
            refine takeW (i := 13) (v := ?_) (Stable.and (Stable.and (Stable.held _ _) (stable_ints B (.slice (some ⟨g, 0, none⟩) xs.length cp) (openL l d (q + 1) ++ rest))) (Stable.held w0 fs)) rfl (by kernel_rfl) (by kernel_rfl) (by kernel_rfl) (fun _ _ _ h => h) ?_ ?_
            rotate_left
            · first | (refine Or.inr ⟨by rfl, ?_⟩; with_reducible rfl) | (refine Or.inl ⟨by rfl, fun W hS => detR_value (w' := W) ?_ (Below.refl _ _)⟩; obtain ⟨⟨hH, q1⟩, q2⟩ := hS; obtain ⟨x0, x1, _⟩ := hH.1; go_simp; first | done | with_reducible rfl) | fail
            simp only [Act.put, List.setIfInBounds_toArray, List.set_cons_zero, List.set_cons_succ]
            refine takeW (i := 14) (v := ?_) (Stable.and (Stable.and (Stable.held _ _) (stable_ints B (.slice (some ⟨g, 0, none⟩) xs.length cp) (openL l d (q + 1) ++ rest))) (Stable.held w0 fs)) rfl (by kernel_rfl) (by kernel_rfl) (by kernel_rfl) (fun _ _ _ h => h) ?_ ?_
            rotate_left
            · first | (refine Or.inr ⟨by rfl, ?_⟩; with_reducible rfl) | (refine Or.inl ⟨by rfl, fun W hS => ?_⟩; obtain ⟨⟨hH, q1⟩, q2⟩ := hS; refine detR_call (w' := W) (f := ?_) (args := ?_) ?_ ?_; rotate_left 2; (go_simp; (refine ⟨?_, ?_⟩ <;> with_reducible rfl)); (first | (with_reducible refine (HCC.out W q2).mono ?_) | fail); (first | (rintro e wn ⟨rfl, hb⟩; refine ⟨?_, hb⟩; with_reducible rfl) | (rintro e wn ⟨rfl, rfl⟩; refine ⟨?_, Below.refl _ _⟩; with_reducible rfl) | fail)) | fail
            simp only [Act.put, List.setIfInBounds_toArray, List.set_cons_zero, List.set_cons_succ]
            refine takeW (i := 15) (v := ?_) (Stable.and (Stable.and (Stable.held _ _) (stable_ints B (.slice (some ⟨g, 0, none⟩) xs.length cp) (openL l d (q + 1) ++ rest))) (Stable.held w0 fs)) rfl (by kernel_rfl) (by kernel_rfl) (by kernel_rfl) (fun _ _ _ h => h) ?_ ?_
            rotate_left
            · first | (refine Or.inr ⟨by rfl, ?_⟩; with_reducible rfl) | (refine Or.inl ⟨by rfl, fun W hS => detR_value (w' := W) ?_ (Below.refl _ _)⟩; obtain ⟨⟨hH, q1⟩, q2⟩ := hS; obtain ⟨x0, x1, _⟩ := hH.1; go_simp; first | done | with_reducible rfl) | fail
            simp only [Act.put, List.setIfInBounds_toArray, List.set_cons_zero, List.set_cons_succ]
            refine takeW (i := 16) (v := ?_) (Stable.and (Stable.and (Stable.held _ _) (stable_ints B (.slice (some ⟨g, 0, none⟩) xs.length cp) (openL l d (q + 1) ++ rest))) (Stable.held w0 fs)) rfl (by kernel_rfl) (by kernel_rfl) (by kernel_rfl) (fun _ _ _ h => h) ?_ ?_
            rotate_left
            · first | (refine Or.inl ⟨by rfl, fun W hS => detR_value (w' := W) ?_ (Below.refl _ _)⟩; obtain ⟨⟨hH, q1⟩, q2⟩ := hS; obtain ⟨x0, x1, _⟩ := hH.1; go_simp; first | done | with_reducible rfl) | fail
            simp only [Act.put, List.setIfInBounds_toArray, List.set_cons_zero, List.set_cons_succ]
            refine doneW (by kernel_rfl) fun wH3 HG => ?_
            obtain ⟨⟨hH, q1⟩, q2⟩ := HG
            have H3 := Lib.hid hH; clear hH
            have MH3_q1 := Lib.hid q1; clear q1
            have MH3_q2 := Lib.hid q2; clear q2
            try clear x0 x1
            obtain ⟨x0, x1, _⟩ := H3.out.1
            go_wp2_with fail
            have HN := Lib.hid (HSTOP.out (decide_eq_false (Int.not_lt.2 HQ.out)))
            exact ⟨⟨i + 1, by omega, .inl (by omega), by go_num, by rw [HNX.out, HREST.out, ← HR1.out, HN.out]; exact MH3_q1.out, MH3_q2.out⟩, by simp [intOf]; omega⟩
    · have hfin : S i ++ xs.drop i = sortL (fun x y => decide (c x y < 0)) xs := by
        rcases hin with h | h
        · obtain rfl : i = xs.length := by omega
          rw [List.drop_length, List.append_nil, HS.out]; exact HF.out
        · obtain rfl : xs = [] := List.eq_nil_of_length_eq_zero h
          rw [HS.out]; simp
      have HFIN := Lib.hid hfin; clear hfin
      have hz1 : ¬ (i : Int) < (xs.length : Int) := by omega
      go_wp2_with fail
      go_end0
      exact ⟨rfl, by rw [← HFIN.out]; exact HOWN.out, HH.out⟩

set_option maxRecDepth 100000 in
theorem pdqSmallR {w0 : World} {B g cp : Nat} {fs : List (Nat × Nat × Value)} (p2 : Value) (c : Int → Int → Int) (xs : List Int) (lim : Int) (w : World) (hB : w0.heap.size ≤ B) (hfs : Bs B fs) (hH : Held w0 w fs)
    (hI : Ints w B (.slice (some ⟨g, 0, none⟩) xs.length cp) xs) (h12 : xs.length ≤ 12)
    (hC : ∀ W x y, x ∈ xs → y ∈ xs → Held w0 W fs → Calls Tryz.prog 98 #[.int .i64 x, .int .i64 y, p2] W (IntIs (c x y) W)) :
    Calls Tryz.prog 124 #[.slice (some ⟨g, 0, none⟩) xs.length cp, .int .i64 0, .int .i64 xs.length, .int .i64 lim, .func (.func 98) #[] #[p2]] w
      fun e w' => e = .returned (.tuple #[]) ∧ Ints w' B (.slice (some ⟨g, 0, none⟩) xs.length cp) (sortL (fun x y => decide (c x y < 0)) xs) ∧ Held w0 w' fs := by
  have HS := Lib.hid (insSortR p2 c xs w hB hfs hH hI (by omega) hC)
  have hz : (xs.length : Int) ≤ 12 := by omega
  clear hH hI hC hfs
  go_enter Tryz.func124, Tryz.ntmps124
  go_wp2
  refine wp_loop_rounds 1 ?_
  rw [rounds_succ]
  go_wp2_with fail
  refine HS.out.mono ?_
  rintro e w' ⟨rfl, h1, h2⟩
  go_wp2_with fail
  (try simp only [Exit.inBlock, Exit.then]); refine bodyPost_ret (results_none rfl _ _ _) rfl ?_
  exact ⟨rfl, h1, h2⟩

set_option maxRecDepth 100000 in
theorem sortFuncR {w0 : World} {B g cp : Nat} {fs : List (Nat × Nat × Value)} (p2 : Value) (c : Int → Int → Int) (xs : List Int) (w : World) (hB : w0.heap.size ≤ B) (hfs : Bs B fs) (hH : Held w0 w fs)
    (hI : Ints w B (.slice (some ⟨g, 0, none⟩) xs.length cp) xs) (h12 : xs.length ≤ 12)
    (hC : ∀ W x y, x ∈ xs → y ∈ xs → Held w0 W fs → Calls Tryz.prog 98 #[.int .i64 x, .int .i64 y, p2] W (IntIs (c x y) W)) :
    Calls Tryz.prog 97 #[.slice (some ⟨g, 0, none⟩) xs.length cp, .func (.func 98) #[] #[p2]] w
      fun e w' => e = .returned (.tuple #[]) ∧ Ints w' B (.slice (some ⟨g, 0, none⟩) xs.length cp) (sortL (fun x y => decide (c x y < 0)) xs) ∧ Held w0 w' fs := by
  have HS := Lib.hid (fun lim => pdqSmallR p2 c xs lim w hB hfs hH hI h12 hC)
  have HL : Hid (Calls Tryz.prog 125 #[.int .u64 (xs.length : Int)] w fun e w' => e = .returned (.int .i64 ((Lib.bitLen (xs.length : Int).toNat : Nat) : Int)) ∧ w' = w) := Lib.hid (Any.bits_Len Tryz.lays125 (xs.length : Int) w (by omega) (by omega))
  have hz : (xs.length : Int) ≤ 12 := by omega
  have hz0 : 0 ≤ (xs.length : Int) := by omega
  clear hH hI hC hfs
  go_enter Tryz.func97, Tryz.ntmps97
  go_wp2_with fail
  refine HL.out.mono ?_
  rintro e w' ⟨rfl, rfl⟩
  go_wp2_with fail
  refine (HS.out _).mono ?_
  rintro e w2 ⟨rfl, h1, h2⟩
  go_wp2_with fail
  go_end0
  exact ⟨rfl, h1, h2⟩

end Go.Proofs.YtmboilogcnmlnaaGreat

namespace Go.Proofs.YtmboilogcnmlnaaGreat
open Go.RowKit
set_option linter.unusedVariables false
set_option linter.unusedSimpArgs false

/-- The box of face f of the rows rs. -/
def bxR (ns ls : List Nd) (rs : List (List Int)) (f : Int) : Nd × Nd := bxL ns (bord ls (atR rs f.toNat)) (bord ls (atR rs f.toNat)).length

set_option maxRecDepth 100000 in
set_option maxHeartbeats 4000000 in
theorem rdCmp (v1 v2 v3 v4 : Value) (rs : List (List Int)) (ds : List Int) (ns ls : List Nd) (B B2 gb f h : Nat) (w : World) (hn : Prs w v1 ns) (hl : Prs w v2 ls) (hf : Faces w B v3 rs) (ha : Ints w B2 v4 ds) (hok : RowsOk ns ls rs) (hfk : f < rs.length) (hhk : h < rs.length) (h20 : ls.length ≤ 20)
    (x0 : w.cell? ⟨gb, 0, none⟩ = some v1) (x1 : w.cell? ⟨gb, 1, none⟩ = some v2) (x2 : w.cell? ⟨gb, 2, none⟩ = some v3) (x3 : w.cell? ⟨gb, 3, none⟩ = some v4) (hgb : gb < w.heap.size) :
    Calls Tryz.prog 98 #[.int .i64 f, .int .i64 h, .pointer (some ⟨gb, 0, none⟩)] w (IntIs (rcmp (bxR ns ls rs) f h) w) := by
  have HF := Lib.hid (fun W hb => implBoxG v1 v2 v3 v4 rs ds ns ls B B2 f W (hn.step hb) (hl.step hb) (hf.step hb) (ha.step hb) hok hfk h20)
  have HH := Lib.hid (fun W hb => implBoxG v1 v2 v3 v4 rs ds ns ls B B2 h W (hn.step hb) (hl.step hb) (hf.step hb) (ha.step hb) hok hhk h20)
  have H0 := Lib.hid (Held.start (w := w) (fs := [(gb, 0, v1), (gb, 1, v2), (gb, 2, v3), (gb, 3, v4)]) ⟨x0, x1, x2, x3, trivial⟩ ⟨hgb, hgb, hgb, hgb, trivial⟩)
  have HR := Lib.hid (show rcmp (bxR ns ls rs) f h = orZ (cmpZ (bxL ns (bord ls (atR rs h)) (bord ls (atR rs h)).length).2.y (bxL ns (bord ls (atR rs f)) (bord ls (atR rs f)).length).2.y) (cmpZ (bxL ns (bord ls (atR rs f)) (bord ls (atR rs f)).length).1.x (bxL ns (bord ls (atR rs h)) (bord ls (atR rs h)).length).1.x) (cmpZ f h) from rfl)
  obtain ⟨A, c, rfl⟩ := prs_form2 hn
  obtain ⟨A2, c2, rfl⟩ := prs_form2 hl
  obtain ⟨A3, c3, rfl⟩ := faces_form hf
  obtain ⟨A4, c4, rfl⟩ := ints_form ha
  clear hn hl hf ha hok hfk hhk h20 x0 x1 x2 x3 hgb
  unfold BoxIs at HF HH
  generalize rcmp (bxR ns ls rs) f h = res at *
  generalize bxL ns (bord ls (atR rs f)) (bord ls (atR rs f)).length = p at *
  generalize bxL ns (bord ls (atR rs h)) (bord ls (atR rs h)).length = q at *
  obtain ⟨⟨px, py⟩, ⟨pu, pv⟩⟩ := p
  obtain ⟨⟨qx, qy⟩, ⟨qu, qv⟩⟩ := q
  simp only at HF HH HR
  have C1 := Lib.hid (fun w => cmpZ_int qv pv w)
  have C2 := Lib.hid (fun w => cmpZ_int px qx w)
  have C3 := Lib.hid (fun w => cmpZ_int f h w)
  have HOR := Lib.hid (fun v w hv => orZ_int (cmpZ qv pv) (cmpZ px qx) (cmpZ f h) v w hv)
  rw [← HR.out] at HOR
  generalize cmpZ qv pv = k1 at *
  generalize cmpZ px qx = k2 at *
  generalize cmpZ (f : Int) (h : Int) = k3 at *
  unfold IntIs at C1 C2 C3 HOR
  clear HR
  obtain ⟨x0, x1, x2, x3, _⟩ := H0.out.1
  go_enter Tryz.func98, Tryz.ntmps98
  go_wp2_with fail
  refine (HF.out _ H0.out.below).mono ?_
  rintro e w1 ⟨rfl, hb⟩
  have H1 := Lib.hid (H0.out.step hb)
  clear hb x0 x1 x2 x3
  have K1 := Lib.hid ((H1.out.new2 w1.heap.size rfl [.int .i64 px, .int .i64 py] 39).new2 (w1.heap.size + 1) (by simp) [.int .i64 pu, .int .i64 pv] 39)
  simp only [newFs, List.cons_append, List.nil_append, List.append_nil] at K1
  obtain ⟨x0, x1, x2, x3, _⟩ := H1.out.1
  obtain ⟨z0, z1, z2, z3, _⟩ := H1.out.2.1
  go_wp2_with fail
  clear x0 x1 x2 x3 z0 z1 z2 z3
  refine (HH.out _ K1.out.below).mono ?_
  rintro e w2 ⟨rfl, hb⟩
  have K2 := Lib.hid (K1.out.step hb)
  clear hb
  have K3 := Lib.hid ((K2.out.new2 w2.heap.size rfl [.int .i64 qx, .int .i64 qy] 39).new2 (w2.heap.size + 1) (by simp) [.int .i64 qu, .int .i64 qv] 39)
  simp only [newFs, List.cons_append, List.nil_append, List.append_nil] at K3
  go_wp2_with fail
  obtain ⟨x0, x1, x2, x3, x4, x5, x6, x7, x8, x9, x10, x11, _⟩ := K3.out.1
  refine regionW (fun W => Held _ W [(w2.heap.size + 1, 0, .int .i64 (qu)), (w2.heap.size + 1, 1, .int .i64 (qv)), (w2.heap.size, 0, .int .i64 (qx)), (w2.heap.size, 1, .int .i64 (qy)), (w1.heap.size + 1, 0, .int .i64 (pu)), (w1.heap.size + 1, 1, .int .i64 (pv)), (w1.heap.size, 0, .int .i64 (px)), (w1.heap.size, 1, .int .i64 (py)), (gb, 0, .slice A ns.length c), (gb, 1, .slice A2 ls.length c2), (gb, 2, .slice A3 rs.length c3), (gb, 3, .slice A4 ds.length c4)]) (by kernel_rfl) K3.out.drew ?_
  refine takeW (i := 0) (v := ?_) (Stable.held _ _) rfl (by kernel_rfl) (by kernel_rfl) (by kernel_rfl) (fun _ _ _ h => h) ?_ ?_
  rotate_left
  · first | (refine Or.inl ⟨by rfl, fun W hS => detR_value (w' := W) ?_ (Below.refl _ _)⟩; have hH := hS; obtain ⟨x0, x1, x2, x3, x4, x5, x6, x7, x8, x9, x10, x11, _⟩ := hH.1; go_simp; first | done | with_reducible rfl) | fail
  simp only [Act.put, List.setIfInBounds_toArray, List.set_cons_zero, List.set_cons_succ]
  refine takeW (i := 1) (v := ?_) (Stable.held _ _) rfl (by kernel_rfl) (by kernel_rfl) (by kernel_rfl) (fun _ _ _ h => h) ?_ ?_
  rotate_left
  · first | (refine Or.inl ⟨by rfl, fun W hS => detR_value (w' := W) ?_ (Below.refl _ _)⟩; have hH := hS; obtain ⟨x0, x1, x2, x3, x4, x5, x6, x7, x8, x9, x10, x11, _⟩ := hH.1; go_simp; first | done | with_reducible rfl) | fail
  simp only [Act.put, List.setIfInBounds_toArray, List.set_cons_zero, List.set_cons_succ]
  refine takeW (i := 2) (v := ?_) (Stable.held _ _) rfl (by kernel_rfl) (by kernel_rfl) (by kernel_rfl) (fun _ _ _ h => h) ?_ ?_
  rotate_left
  · first | (refine Or.inl ⟨by rfl, fun W hS => detR_value (w' := W) ?_ (Below.refl _ _)⟩; have hH := hS; obtain ⟨x0, x1, x2, x3, x4, x5, x6, x7, x8, x9, x10, x11, _⟩ := hH.1; go_simp; first | done | with_reducible rfl) | fail
  simp only [Act.put, List.setIfInBounds_toArray, List.set_cons_zero, List.set_cons_succ]
  refine takeW (i := 3) (v := ?_) (Stable.held _ _) rfl (by kernel_rfl) (by kernel_rfl) (by kernel_rfl) (fun _ _ _ h => h) ?_ ?_
  rotate_left
  · first | (refine Or.inl ⟨by rfl, fun W hS => detR_value (w' := W) ?_ (Below.refl _ _)⟩; have hH := hS; obtain ⟨x0, x1, x2, x3, x4, x5, x6, x7, x8, x9, x10, x11, _⟩ := hH.1; go_simp; first | done | with_reducible rfl) | fail
  simp only [Act.put, List.setIfInBounds_toArray, List.set_cons_zero, List.set_cons_succ]
  refine takeW (i := 4) (v := ?_) (Stable.held _ _) rfl (by kernel_rfl) (by kernel_rfl) (by kernel_rfl) (fun _ _ _ h => h) ?_ ?_
  rotate_left
  · first | (refine Or.inl ⟨by rfl, fun W hS => ?_⟩; have hH := hS; refine detR_call (w' := W) (f := ?_) (args := ?_) ?_ ?_; rotate_left 2; (go_simp; (refine ⟨?_, ?_⟩ <;> with_reducible rfl)); (first | (with_reducible refine (C1.out _).mono ?_) | (with_reducible refine (C2.out _).mono ?_) | (with_reducible refine (C3.out _).mono ?_) | fail); (first | (rintro e wn ⟨rfl, hb⟩; refine ⟨?_, hb⟩; with_reducible rfl) | (rintro e wn ⟨rfl, rfl⟩; refine ⟨?_, Below.refl _ _⟩; with_reducible rfl) | fail)) | fail
  simp only [Act.put, List.setIfInBounds_toArray, List.set_cons_zero, List.set_cons_succ]
  refine takeW (i := 5) (v := ?_) (Stable.held _ _) rfl (by kernel_rfl) (by kernel_rfl) (by kernel_rfl) (fun _ _ _ h => h) ?_ ?_
  rotate_left
  · first | (refine Or.inl ⟨by rfl, fun W hS => detR_value (w' := W) ?_ (Below.refl _ _)⟩; have hH := hS; obtain ⟨x0, x1, x2, x3, x4, x5, x6, x7, x8, x9, x10, x11, _⟩ := hH.1; go_simp; first | done | with_reducible rfl) | fail
  simp only [Act.put, List.setIfInBounds_toArray, List.set_cons_zero, List.set_cons_succ]
  refine takeW (i := 6) (v := ?_) (Stable.held _ _) rfl (by kernel_rfl) (by kernel_rfl) (by kernel_rfl) (fun _ _ _ h => h) ?_ ?_
  rotate_left
  · first | (refine Or.inl ⟨by rfl, fun W hS => detR_value (w' := W) ?_ (Below.refl _ _)⟩; have hH := hS; obtain ⟨x0, x1, x2, x3, x4, x5, x6, x7, x8, x9, x10, x11, _⟩ := hH.1; go_simp; first | done | with_reducible rfl) | fail
  simp only [Act.put, List.setIfInBounds_toArray, List.set_cons_zero, List.set_cons_succ]
  refine takeW (i := 7) (v := ?_) (Stable.held _ _) rfl (by kernel_rfl) (by kernel_rfl) (by kernel_rfl) (fun _ _ _ h => h) ?_ ?_
  rotate_left
  · first | (refine Or.inl ⟨by rfl, fun W hS => detR_value (w' := W) ?_ (Below.refl _ _)⟩; have hH := hS; obtain ⟨x0, x1, x2, x3, x4, x5, x6, x7, x8, x9, x10, x11, _⟩ := hH.1; go_simp; first | done | with_reducible rfl) | fail
  simp only [Act.put, List.setIfInBounds_toArray, List.set_cons_zero, List.set_cons_succ]
  refine takeW (i := 8) (v := ?_) (Stable.held _ _) rfl (by kernel_rfl) (by kernel_rfl) (by kernel_rfl) (fun _ _ _ h => h) ?_ ?_
  rotate_left
  · first | (refine Or.inl ⟨by rfl, fun W hS => detR_value (w' := W) ?_ (Below.refl _ _)⟩; have hH := hS; obtain ⟨x0, x1, x2, x3, x4, x5, x6, x7, x8, x9, x10, x11, _⟩ := hH.1; go_simp; first | done | with_reducible rfl) | fail
  simp only [Act.put, List.setIfInBounds_toArray, List.set_cons_zero, List.set_cons_succ]
  refine takeW (i := 9) (v := ?_) (Stable.held _ _) rfl (by kernel_rfl) (by kernel_rfl) (by kernel_rfl) (fun _ _ _ h => h) ?_ ?_
  rotate_left
  · first | (refine Or.inl ⟨by rfl, fun W hS => ?_⟩; have hH := hS; refine detR_call (w' := W) (f := ?_) (args := ?_) ?_ ?_; rotate_left 2; (go_simp; (refine ⟨?_, ?_⟩ <;> with_reducible rfl)); (first | (with_reducible refine (C1.out _).mono ?_) | (with_reducible refine (C2.out _).mono ?_) | (with_reducible refine (C3.out _).mono ?_) | fail); (first | (rintro e wn ⟨rfl, hb⟩; refine ⟨?_, hb⟩; with_reducible rfl) | (rintro e wn ⟨rfl, rfl⟩; refine ⟨?_, Below.refl _ _⟩; with_reducible rfl) | fail)) | fail
  simp only [Act.put, List.setIfInBounds_toArray, List.set_cons_zero, List.set_cons_succ]
  refine takeW (i := 10) (v := ?_) (Stable.held _ _) rfl (by kernel_rfl) (by kernel_rfl) (by kernel_rfl) (fun _ _ _ h => h) ?_ ?_
  rotate_left
  · first | (refine Or.inl ⟨by rfl, fun W hS => detR_value (w' := W) ?_ (Below.refl _ _)⟩; have hH := hS; obtain ⟨x0, x1, x2, x3, x4, x5, x6, x7, x8, x9, x10, x11, _⟩ := hH.1; go_simp; first | done | with_reducible rfl) | fail
  simp only [Act.put, List.setIfInBounds_toArray, List.set_cons_zero, List.set_cons_succ]
  refine takeW (i := 11) (v := ?_) (Stable.held _ _) rfl (by kernel_rfl) (by kernel_rfl) (by kernel_rfl) (fun _ _ _ h => h) ?_ ?_
  rotate_left
  · first | (refine Or.inl ⟨by rfl, fun W hS => detR_value (w' := W) ?_ (Below.refl _ _)⟩; have hH := hS; obtain ⟨x0, x1, x2, x3, x4, x5, x6, x7, x8, x9, x10, x11, _⟩ := hH.1; go_simp; first | done | with_reducible rfl) | fail
  simp only [Act.put, List.setIfInBounds_toArray, List.set_cons_zero, List.set_cons_succ]
  refine takeW (i := 12) (v := ?_) (Stable.held _ _) rfl (by kernel_rfl) (by kernel_rfl) (by kernel_rfl) (fun _ _ _ h => h) ?_ ?_
  rotate_left
  · first | (refine Or.inl ⟨by rfl, fun W hS => ?_⟩; have hH := hS; refine detR_call (w' := W) (f := ?_) (args := ?_) ?_ ?_; rotate_left 2; (go_simp; (refine ⟨?_, ?_⟩ <;> with_reducible rfl)); (first | (with_reducible refine (C1.out _).mono ?_) | (with_reducible refine (C2.out _).mono ?_) | (with_reducible refine (C3.out _).mono ?_) | fail); (first | (rintro e wn ⟨rfl, hb⟩; refine ⟨?_, hb⟩; with_reducible rfl) | (rintro e wn ⟨rfl, rfl⟩; refine ⟨?_, Below.refl _ _⟩; with_reducible rfl) | fail)) | fail
  simp only [Act.put, List.setIfInBounds_toArray, List.set_cons_zero, List.set_cons_succ]
  refine freeW (i := 13) (fun v W => Seq W v [k1, k2, k3]) (Stable.held _ _) (fun v => fun _ _ h hb => h.step hb) rfl (by kernel_rfl) (by rfl) (fun W hS => ?_) (fun v1 => ?_)
  · have hH := hS; exact freeR_threeZ (by go_simp; first | done | with_reducible rfl)
  simp only [Act.put, List.setIfInBounds_toArray, List.set_cons_zero, List.set_cons_succ]
  refine takeW (i := 14) (v := ?_) (Stable.and (Stable.held _ _) (fun _ _ h hb => h.step hb)) rfl (by kernel_rfl) (by kernel_rfl) (by kernel_rfl) (fun _ _ _ h => h) ?_ ?_
  rotate_left
  · first | (refine Or.inl ⟨by rfl, fun W hS => ?_⟩; obtain ⟨hH, r1⟩ := hS; refine detR_call (w' := W) (f := ?_) (args := ?_) ?_ ?_; rotate_left 2; (go_simp; (refine ⟨?_, ?_⟩ <;> with_reducible rfl)); (first | (with_reducible refine (HOR.out _ _ r1).mono ?_) | fail); (first | (rintro e wn ⟨rfl, hb⟩; refine ⟨?_, hb⟩; with_reducible rfl) | (rintro e wn ⟨rfl, rfl⟩; refine ⟨?_, Below.refl _ _⟩; with_reducible rfl) | fail)) | fail
  simp only [Act.put, List.setIfInBounds_toArray, List.set_cons_zero, List.set_cons_succ]
  refine takeW (i := 15) (v := ?_) (Stable.and (Stable.held _ _) (fun _ _ h hb => h.step hb)) rfl (by kernel_rfl) (by kernel_rfl) (by kernel_rfl) (fun _ _ _ h => h) ?_ ?_
  rotate_left
  · first | (refine Or.inl ⟨by rfl, fun W hS => detR_value (w' := W) ?_ (Below.refl _ _)⟩; obtain ⟨hH, r1⟩ := hS; obtain ⟨x0, x1, x2, x3, x4, x5, x6, x7, x8, x9, x10, x11, _⟩ := hH.1; go_simp; first | done | with_reducible rfl) | fail
  simp only [Act.put, List.setIfInBounds_toArray, List.set_cons_zero, List.set_cons_succ]
  refine doneW (by kernel_rfl) fun wH5 HG => ?_
  obtain ⟨hH, r1⟩ := HG
  have H5 := Lib.hid hH; clear hH
  have MH5_1 := Lib.hid r1; clear r1
  try clear x0 x1 x2 x3 x4 x5 x6 x7 x8 x9 x10 x11
  obtain ⟨x0, x1, x2, x3, x4, x5, x6, x7, x8, x9, x10, x11, _⟩ := H5.out.1
  go_wp2_with fail
  go_ret
  exact ⟨rfl, H5.out.below⟩

/-- The faces other than the wall around, in memory of its own that is not nil. -/
def SomeInts (xs : List Int) (w : World) (e : Ending) (w' : World) : Prop := ∃ g c, e = .returned (.slice (some ⟨g, 0, none⟩) xs.length c) ∧ Ints w' w.heap.size (.slice (some ⟨g, 0, none⟩) xs.length c) xs ∧ Below w.heap.size w w'

set_option maxRecDepth 100000 in
set_option maxHeartbeats 2000000 in
theorem implInnerS (ns ls : List Nd) (v1 v2 v3 v4 : Value) (rs : List (List Int)) (ds : List Int) (B : Nat) (w : World) (hn : Prs w v1 ns) (hl : Prs w v2 ls) (hf : Faces w B v3 rs) (ha : Ints w B v4 ds) (hok : RowsOk ns ls rs) :
    Calls Tryz.prog 96 #[.agg #[v1, v2, v3, v4]] w (SomeInts (fltN (innP (firstI (outP ns ls rs) rs.length)) rs.length) w) := by
  have h40 := hok.1
  have HS := Lib.hid (fun W hb => implOuter ns ls v1 v2 v3 v4 rs ds B W (hn.step hb) (hl.step hb) (hf.step hb) (ha.step hb) hok)
  unfold IntIs at HS
  obtain ⟨A, c, rfl⟩ := prs_form2 hn
  obtain ⟨A2, c2, rfl⟩ := prs_form2 hl
  obtain ⟨A3, c3, rfl⟩ := faces_form hf
  obtain ⟨A4, c4, rfl⟩ := ints_form ha
  have H0 := Lib.hid (heldG w (.slice A ns.length c) (.slice A2 ls.length c2) (.slice A3 rs.length c3) (.slice A4 ds.length c4) 66)
  obtain ⟨i0, hi, hz0, hz1, hz2⟩ := info_parts infoInt
  have HI := Lib.hid (And.intro hi (And.intro hz0 (And.intro hz1 hz2))); clear hi hz0 hz1 hz2
  clear hn hl hf ha hok
  generalize firstI (outP ns ls rs) rs.length = o at *
  have HP := Lib.hid (fun k => show innP o k = !((k : Int) == o) from rfl)
  have HU := Lib.hid (fltN_succ (innP o))
  have HLN := Lib.hid (fltN_len (innP o))
  have HZ := Lib.hid (show fltN (innP o) 0 = [] from rfl)
  generalize fltN (innP o) = X at *
  generalize innP o = p at *
  obtain ⟨x0, x1, x2, x3, _⟩ := H0.out.1
  go_enter Tryz.func96, Tryz.ntmps96
  go_wp2_with fail
  refine (HS.out _ H0.out.below).mono ?_
  rintro e w1 ⟨rfl, hb⟩
  have H1 := Lib.hid (H0.out.step hb); clear hb x0 x1 x2 x3 H0
  obtain ⟨x0, x1, x2, x3, _⟩ := H1.out.1
  obtain ⟨z0, z1, z2, z3, _⟩ := H1.out.2.1
  go_wp2_with fail
  clear x0 x1 x2 x3 z0 z1 z2 z3
  go_loopw [4, 12] (fun v i wr => ∃ m : Nat, m ≤ rs.length ∧ i = .int .i64 m ∧ (∃ g c, v = .slice (some ⟨g, 0, none⟩) (X m).length c) ∧ Ints wr (w.heap.size + 1) v (X m) ∧ Held w wr [(w.heap.size, 0, .slice A ns.length c), (w.heap.size, 1, .slice A2 ls.length c2), (w.heap.size, 2, .slice A3 rs.length c3), (w.heap.size, 3, .slice A4 ds.length c4)]) (fun _ i _ => rs.length - (intOf i).toNat)
  case atStart => exact ⟨0, Nat.zero_le _, rfl, ⟨_, _, by rw [HZ.out]; rfl⟩, by rw [HZ.out]; exact Ints.made _ _ _ rfl H1.out.2.1.1, H1.out.alloc _⟩
  case round =>
    clear H1
    obtain ⟨m, hm, rfl, ⟨g9, c9, rfl⟩, hown, hh⟩ := hrel
    have HO2 := Lib.hid hown; clear hown
    have H2 := Lib.hid hh; clear hh
    by_cases hlt : m < rs.length
    · have q1 : (0 : Int) ≤ m := by omega
      have q2 : (m : Int) < (rs.length : Int) := by omega
      have HUM := Lib.hid (HU.out m)
      have hln := HLN.out m
      have HPM := Lib.hid (HP.out m)
      obtain ⟨b, hb⟩ : ∃ b, ((m : Int) == o) = b := ⟨_, rfl⟩
      rw [hb] at HPM
      rw [HPM.out] at HUM
      have hn1 : ((m : Int) != o) = !b := by rw [← hb]; rfl
      cases b <;> simp only [Bool.not_true, Bool.not_false] at hn1
      · obtain ⟨hi, hz0, hz1, hz2⟩ := HI.out
        have hsz1 := H2.out.2.1.1
        go_wp2_with (at_builtin; refine wpList_append_own _ rfl _ _ 43 rfl (w.heap.size + 1) 3 i0 (.int .i64 0) 1 8 Tryz.underlying43 hi hz0 hz1 hz2 rfl (by decide) _ _ _ rfl (World.ownsRow.alloc HO2.out _) ⟨_, 0, none⟩ 1 1 [.int .i64 m] rfl rfl ?c1 ?c2 ?c3 ?c4 ?c5 ?_)
        case c1 => exact cell_one_new _ _ _
        case c2 => simp [Value.oneCell']
        case c3 => unfold maxLen; omega
        case c4 => omega
        case c5 => simp <;> omega
        intro v' w5 hown hgrow _
        have H5 := Lib.hid (H2.out.stepB (B := w.heap.size + 1) ⟨Nat.lt_succ_self _, Nat.lt_succ_self _, Nat.lt_succ_self _, Nat.lt_succ_self _, trivial⟩ (grown_below HO2.out hsz1 hgrow) (Nat.le_succ _))
        have HO5 := Lib.hid (Ints.more hown); clear hown hgrow
        go_wp2_with fail
        refine ⟨⟨m + 1, by omega, by go_num, ?_, by rw [HUM.out]; exact HO5.out, H5.out⟩, by simp [intOf]; omega⟩
        rw [HUM.out]
        obtain ⟨g8, c8, e8⟩ := HO5.out.some_ (by simp)
        exact ⟨g8, c8, e8⟩
      · go_wp2_with fail
        exact ⟨⟨m + 1, by omega, by go_num, ⟨g9, c9, by rw [HUM.out]; rfl⟩, by rw [HUM.out]; exact HO2.out, H2.out⟩, by simp [intOf]; omega⟩
    · obtain rfl : m = rs.length := by omega
      go_wp2_with fail
      go_ret
      exact ⟨_, _, rfl, HO2.out.mono (Nat.le_succ _), H2.out.below⟩

theorem insM_congr {lt lt' : Int → Int → Bool} {d : Int} {l : List Int} (h : ∀ y, y ∈ l → lt d y = lt' d y) : ∀ m, m ≤ l.length → insM lt d l m = insM lt' d l m
  | 0, _ => rfl
  | m + 1, hm => by
    have e : lt d (atZ l m) = lt' d (atZ l m) := h _ (by rw [← atZ_get (show m < l.length by omega)]; exact List.getElem_mem _)
    unfold insM
    rw [e, insM_congr h m (by omega)]

theorem sortL_congr {lt lt' : Int → Int → Bool} : ∀ (n : Nat) (xs : List Int), xs.length = n → (∀ x y, x ∈ xs → y ∈ xs → lt x y = lt' x y) → sortL lt xs = sortL lt' xs
  | 0, xs, h, _ => by obtain rfl := List.eq_nil_of_length_eq_zero h; rfl
  | n + 1, xs, h, hc => by
    have e : xs = xs.take n ++ [atZ xs n] := by
      rw [← atZ_get (by omega), ← List.take_succ_eq_append_getElem (by omega), List.take_of_length_le (by omega)]
    have ht : ∀ x, x ∈ xs.take n → x ∈ xs := fun x hx => List.mem_of_mem_take hx
    have hn : atZ xs n ∈ xs := by rw [← atZ_get (show n < xs.length by omega)]; exact List.getElem_mem _
    have ih := sortL_congr (lt := lt) (lt' := lt') n (xs.take n) (by simp; omega) fun x y hx hy => hc x y (ht x hx) (ht y hy)
    rw [e, sortL_more, sortL_more, ih]
    unfold insL
    exact insM_congr (fun y hy => hc _ _ hn (ht y (sortL_mem _ _ _ rfl y hy))) _ (Nat.le_refl _)

theorem read_congr (ns ls : List Nd) : sortL (ltR (bxR (gN ns ls) (gL ns ls) (wF ns ls))) (innW ns ls) = readL ns ls := by
  unfold readL
  refine sortL_congr _ _ rfl fun x y hx hy => ?_
  obtain ⟨f, hf, hf2, _⟩ := (fltN_mem (innP (outW ns ls)) (wF ns ls).length x).1 hx
  obtain ⟨h, hh, hh2, _⟩ := (fltN_mem (innP (outW ns ls)) (wF ns ls).length y).1 hy
  subst hf; subst hh
  have e1 : bxR (gN ns ls) (gL ns ls) (wF ns ls) f = boxW ns ls f := g_box hf2
  have e2 : bxR (gN ns ls) (gL ns ls) (wF ns ls) h = boxW ns ls h := g_box hh2
  unfold ltR rcmp
  rw [e1, e2]

set_option maxRecDepth 100000 in
set_option maxHeartbeats 1000000 in
theorem implReadG (v1 v2 v3 v4 : Value) (rs : List (List Int)) (ds : List Int) (ns ls : List Nd) (B : Nat) (w : World) (hn : Prs w v1 ns) (hl : Prs w v2 ls) (hf : Faces w B v3 rs) (ha : Ints w B v4 ds) (hok : RowsOk ns ls rs) (h20 : ls.length ≤ 20) (h12 : (fltN (innP (firstI (outP ns ls rs) rs.length)) rs.length).length ≤ 12) :
    Calls Tryz.prog 61 #[.agg #[v1, v2, v3, v4]] w (SomeInts (sortL (ltR (bxR ns ls rs)) (fltN (innP (firstI (outP ns ls rs) rs.length)) rs.length)) w) := by
  have HI := Lib.hid (fun W hb => implInnerS ns ls v1 v2 v3 v4 rs ds B W (hn.step hb) (hl.step hb) (hf.step hb) (ha.step hb) hok)
  unfold SomeInts at HI
  have HFL := Lib.hid (fltN_mem (innP (firstI (outP ns ls rs) rs.length)) rs.length)
  generalize fltN (innP (firstI (outP ns ls rs) rs.length)) rs.length = xs at *
  have H0 := Lib.hid (heldG w v1 v2 v3 v4 66)
  have HSO := Lib.hid (fun (W : World) (g cp : Nat) (hH : Held w W [(w.heap.size, 0, v1), (w.heap.size, 1, v2), (w.heap.size, 2, v3), (w.heap.size, 3, v4)]) (hI : Ints W (w.heap.size + 1) (.slice (some ⟨g, 0, none⟩) xs.length cp) xs) =>
    sortFuncR (w0 := w) (B := w.heap.size + 1) (g := g) (cp := cp) (fs := [(w.heap.size, 0, v1), (w.heap.size, 1, v2), (w.heap.size, 2, v3), (w.heap.size, 3, v4)]) (.pointer (some ⟨w.heap.size, 0, none⟩)) (rcmp (bxR ns ls rs)) xs W (Nat.le_succ _) ⟨Nat.lt_succ_self _, Nat.lt_succ_self _, Nat.lt_succ_self _, Nat.lt_succ_self _, trivial⟩ hH hI h12
      (fun W' x y hx hy hh => by
        obtain ⟨i, rfl, hi, -⟩ := (HFL.out x).1 hx
        obtain ⟨j, rfl, hj, -⟩ := (HFL.out y).1 hy
        exact rdCmp v1 v2 v3 v4 rs ds ns ls B B w.heap.size i j W' (hn.step hh.below) (hl.step hh.below) (hf.step hh.below) (ha.step hh.below) hok hi hj h20 hh.1.1 hh.1.2.1 hh.1.2.2.1 hh.1.2.2.2.1 hh.2.1.1))
  have HSL := Lib.hid (show sortL (fun x y => decide (rcmp (bxR ns ls rs) x y < 0)) xs = sortL (ltR (bxR ns ls rs)) xs from rfl)
  have HLN := Lib.hid (sortL_len (ltR (bxR ns ls rs)) xs.length xs rfl)
  rw [HSL.out] at HSO
  clear HSL
  generalize sortL (ltR (bxR ns ls rs)) xs = R at *
  obtain ⟨A, c, rfl⟩ := prs_form2 hn
  obtain ⟨A2, c2, rfl⟩ := prs_form2 hl
  obtain ⟨A3, c3, rfl⟩ := faces_form hf
  obtain ⟨A4, c4, rfl⟩ := ints_form ha
  clear hn hl hf ha hok HFL
  have hmf : ∀ (fn : Fn) (first cap : Array Value) (w : World), (Instr.makeFunc fn first cap).run Tryz.prog w = .ok (.func fn first cap) w := fun _ _ _ _ => rfl
  go_enter Tryz.func61, Tryz.ntmps61
  obtain ⟨x0, x1, x2, x3, _⟩ := H0.out.1
  go_wp2_with fail
  refine (HI.out _ H0.out.below).mono ?_
  rintro e w1 ⟨g, cg, rfl, hi, hb⟩
  have H1 := Lib.hid (H0.out.step hb)
  have HI1 := Lib.hid (hi.mono (b' := w.heap.size + 1) (by simp))
  clear hi hb x0 x1 x2 x3 H0
  go_wp2_with fail
  refine (HSO.out _ _ _ H1.out HI1.out).mono ?_
  rintro e w2 ⟨rfl, hi, hh⟩
  have H2 := Lib.hid hh
  have HI2 := Lib.hid hi
  clear hi hh
  go_wp2_with fail
  go_ret
  refine ⟨g, cg, ?_, ?_, H2.out.below⟩
  · rw [HLN.out]; rfl
  · rw [HLN.out]; exact HI2.out.mono (Nat.le_succ _)

set_option maxRecDepth 100000 in
theorem implRead (ns ls : List Nd) (vn vl : Value) (w : World) (hn : Prs w vn ns) (hl : Prs w vl ls) :
    Calls Tryz.prog 26 #[.agg #[vn, vl]] w (IntsNew (readL ns ls) w) := by
  have HS := Lib.hid (fun v1 v2 v3 v4 B w h1 h2 h3 h4 h12 => implReadG v1 v2 v3 v4 (wF ns ls) (gA ns ls) (gN ns ls) (gL ns ls) B w h1 h2 h3 h4 (g_ok ns ls) (g_len ns ls).2 h12)
  rw [g_outer] at HS
  have HS := Lib.hid (fun v1 v2 v3 v4 B w h1 h2 h3 h4 => HS.out v1 v2 v3 v4 B w h1 h2 h3 h4 (inn_twelve ns ls))
  rw [show fltN (innP (outW ns ls)) (wF ns ls).length = innW ns ls from rfl, read_congr] at HS
  unfold SomeInts at HS
  have HN := Lib.hid hn
  have HL := Lib.hid hl
  have HGL := Lib.hid (fun w h1 h2 => implGlass ns ls vn vl w h1 h2)
  unfold GlassNew at HGL
  have H0 := Lib.hid (held_pair w vn vl 31)
  obtain ⟨A, c, rfl⟩ := prs_form2 hn
  obtain ⟨A2, c2, rfl⟩ := prs_form2 hl
  clear hn hl
  generalize readL ns ls = res at *
  generalize gN ns ls = ns' at *
  generalize gL ns ls = ls' at *
  generalize gA ns ls = ds at *
  generalize wF ns ls = rs at *
  generalize wholeB ns ls = ok at *
  go_enter Tryz.func26, Tryz.ntmps26
  go_wp2_with fail
  refine (HGL.out _ (HN.out.step H0.out.below) (HL.out.step H0.out.below)).mono ?_
  rintro e w1 ⟨v1, v2, v3, v4, rfl, g1, g2, g3, g4, hb⟩
  have H1 := Lib.hid (H0.out.step hb)
  have G0 := Lib.hid (heldG w1 v1 v2 v3 v4 66)
  have B1 := Lib.hid (H1.out.below.trans (G0.out.below.mono H1.out.below.size))
  have G1 := Lib.hid (g1.step G0.out.below)
  have G2 := Lib.hid (g2.step G0.out.below)
  have G3 := Lib.hid (g3.step G0.out.below)
  have G4 := Lib.hid (g4.step G0.out.below)
  obtain ⟨A5, c5, rfl⟩ := prs_form2 g1
  obtain ⟨A6, c6, rfl⟩ := prs_form2 g2
  obtain ⟨A7, c7, rfl⟩ := faces_form g3
  obtain ⟨A8, c8, rfl⟩ := ints_form g4
  clear hb g1 g2 g3 g4
  obtain ⟨x0, x1, _⟩ := H1.out.1
  obtain ⟨y0, y1, y2, y3, _⟩ := G0.out.1
  go_wp2_with fail
  refine (HS.out _ _ _ _ _ _ G1.out G2.out G3.out G4.out).mono ?_
  rintro e w2 ⟨g9, c9, rfl, hm, hb⟩
  have B2 := Lib.hid (B1.out.trans (hb.mono B1.out.size))
  have HM := Lib.hid (hm.mono B1.out.size)
  clear hb hm
  go_wp2_with fail
  go_ret
  exact ⟨_, rfl, HM.out, B2.out⟩
end Go.Proofs.YtmboilogcnmlnaaGreat

namespace Go.Proofs.YtmboilogcnmlnaaGreat
open Go.RowKit
set_option linter.unusedVariables false
set_option linter.unusedSimpArgs false

/-- The first n faces in reading order. -/
noncomputable def rdS (ns ls : List Nd) (n : Nat) : List Int := sortL (ltR (boxW ns ls)) (fltN (innP (outW ns ls)) n)

theorem rdS_succ (ns ls : List Nd) (n : Nat) : rdS ns ls (n + 1) = if innP (outW ns ls) n = true then insL (ltR (boxW ns ls)) n (rdS ns ls n) else rdS ns ls n := by
  unfold rdS
  rw [fltN_succ]
  by_cases h : innP (outW ns ls) n = true
  · rw [if_pos h, if_pos h, sortL_more]
  · rw [if_neg h, if_neg h]

theorem rdS_len (ns ls : List Nd) (n : Nat) : (rdS ns ls n).length ≤ n := by
  unfold rdS
  rw [sortL_len _ _ _ rfl]
  exact fltN_len _ _

theorem rdS_at (ns ls : List Nd) {n q : Nat} (h : q < (rdS ns ls n).length) : ∃ d : Nat, atZ (rdS ns ls n) q = d ∧ d < n := by
  have hm : atZ (rdS ns ls n) q ∈ rdS ns ls n := by rw [← atZ_get h]; exact List.getElem_mem h
  obtain ⟨d, e, hd, _⟩ := (fltN_mem _ _ _).1 (sortL_mem _ _ _ rfl _ hm)
  exact ⟨d, e, hd⟩

theorem NB.grown {W W' : World} {b : Nat} {n : Nd} {row : Option Nat} (h : NB W b n) (hg : W.grownBy W' row) (hr : row ≠ some b) : NB W' b n := (hg.block _ h.lt fun e => hr e.symm).trans h

theorem NB.apart {W : World} {b g B k c : Nat} {n : Nd} {xs : List Int} (h : NB W b n) (hi : Ints W B (.slice (some ⟨g, 0, none⟩) k c) xs) : b ≠ g := by
  rintro rfl
  obtain ⟨cur, hc⟩ := hi.typed rfl
  unfold NB at h
  rw [h] at hc
  simp at hc

theorem NB.setFar {W : World} {b g j : Nat} {n : Nd} {x : Value} (h : NB W b n) (hne : b ≠ g) : NB (W.setCell ⟨g, j, none⟩ x) b n := (Below.heap_setCell _ _ _ _ hne).trans h

theorem NB.farV {W : World} {b B : Nat} {n : Nd} {v : Value} {xs : List Int} (h : NB W b n) (hi : Ints W B v xs) : v.ownBlock ≠ some b := by
  intro e
  obtain ⟨cur, hc⟩ := hi.typed e
  unfold NB at h
  rw [h] at hc
  simp at hc

set_option maxRecDepth 100000 in
set_option maxHeartbeats 8000000 in
theorem specRead (ns ls : List Nd) (vn vl : Value) (w : World) (hn : Prs w vn ns) (hl : Prs w vl ls) :
    Calls Tryz.prog 25 #[.agg #[vn, vl]] w (IntsNew (readL ns ls) w) := by
  have HN := Lib.hid hn
  have HL := Lib.hid hl
  have HF := Lib.hid (fun w h1 h2 => specFacesL ns ls vn vl w h1 h2)
  unfold FacesNew at HF
  have HOU := Lib.hid (fun w h1 h2 => specOuterFace ns ls vn vl w h1 h2)
  unfold IntIs at HOU
  have HBX := Lib.hid (fun (k : Nat) w h1 h2 => specBox ns ls vn vl k w h1 h2)
  unfold BoxIs at HBX
  have h40 := wF_len (ns := ns) (ls := ls)
  have HSS := Lib.hid (rdS_succ ns ls)
  have HLN := Lib.hid (rdS_len ns ls)
  have HAT0 := Lib.hid (fun n q h => rdS_at ns ls (n := n) (q := q) h)
  have HLT0 := Lib.hid (fun (k d : Nat) (h : d < k) => ltR_iff (boxW ns ls) (k := k) (d := d) (by omega))
  have HP := Lib.hid (fun k => show innP (outW ns ls) k = !((k : Int) == outW ns ls) from rfl)
  have HR := Lib.hid (show readL ns ls = rdS ns ls (wF ns ls).length from rfl)
  have HZ := Lib.hid (show rdS ns ls 0 = [] from rfl)
  have H0 := Lib.hid (held_pair w vn vl 31)
  obtain ⟨A, c, rfl⟩ := prs_form2 hn
  obtain ⟨A2, c2, rfl⟩ := prs_form2 hl
  clear hn hl
  generalize innP (outW ns ls) = p at *
  generalize outW ns ls = o at *
  generalize readL ns ls = R at *
  generalize rdS ns ls = S at *
  generalize ltR (boxW ns ls) = lt at *
  generalize boxW ns ls = bx at *
  generalize wF ns ls = rs at *
  obtain ⟨i0, hi, hz0, hz1, hz2⟩ := info_parts infoInt
  have HI := Lib.hid (And.intro hi (And.intro hz0 (And.intro hz1 hz2))); clear hi hz0 hz1 hz2
  have H1 := Lib.hid (H0.out.alloc (.cells #[] 3))
  have HO1 := Lib.hid (Ints.made (w.alloc (.cells #[.slice A ns.length c, .slice A2 ls.length c2] 31)) (w.heap.size + 1) (w.heap.size + 1) (by simp) (Nat.le_refl _))
  clear H0
  obtain ⟨x0, x1, _⟩ := H1.out.1
  go_enter Tryz.func25, Tryz.ntmps25
  go_wp2_with fail
  refine (HF.out _ (HN.out.step H1.out.below) (HL.out.step H1.out.below)).mono ?_
  rintro e w1 ⟨v, rfl, hv, hb⟩
  obtain ⟨a9, c9, rfl⟩ := faces_form hv
  have H2 := Lib.hid (H1.out.step hb)
  have HO2 := Lib.hid (HO1.out.step hb)
  clear hb hv x0 x1 H1 HO1
  obtain ⟨x0, x1, _⟩ := H2.out.1
  go_wp2_with fail
  refine (HOU.out _ (HN.out.step H2.out.below) (HL.out.step H2.out.below)).mono ?_
  rintro e w2 ⟨rfl, hb⟩
  have H3 := Lib.hid (H2.out.step hb)
  have HO3 := Lib.hid (HO2.out.step hb)
  clear hb x0 x1 H2 HO2
  go_wp2_with fail
  go_loopw [3, 6] (fun u i wr => ∃ m : Nat, m ≤ rs.length ∧ i = .int .i64 m ∧ Ints wr (w.heap.size + 1) u (S m) ∧ Held w wr [(w.heap.size, 0, .slice A ns.length c), (w.heap.size, 1, .slice A2 ls.length c2)]) (fun _ i _ => rs.length - (intOf i).toNat)
  case atStart => exact ⟨0, Nat.zero_le _, rfl, by rw [HZ.out]; exact HO3.out, H3.out⟩
  case round =>
    clear H3 HO3
    obtain ⟨m, hm, rfl, hown, hh⟩ := hrel
    have HOWN := Lib.hid hown; clear hown
    have H1 := Lib.hid hh; clear hh
    by_cases hlt : m < rs.length
    · have HS := Lib.hid (HSS.out m)
      have hll := HLN.out m
      have HAT := Lib.hid (fun q h => HAT0.out m q h)
      have HPM := Lib.hid (HP.out m)
      have hz1 : (m : Int) < (rs.length : Int) := by omega
      have hz2 : (0 : Int) ≤ m := by omega
      obtain ⟨b, hb⟩ : ∃ b, ((m : Int) == o) = b := ⟨_, rfl⟩
      rw [hb] at HPM
      rw [HPM.out] at HS
      clear HPM
      generalize S m = l at *
      cases b <;> simp only [Bool.not_true, Bool.not_false] at HS
      · have hlb : l.length ≤ 40 := by omega
        clear hll
        obtain ⟨pm, hpm⟩ : ∃ q, q = bx m := ⟨_, rfl⟩
        have HBM := Lib.hid (fun w h1 h2 => HBX.out m w h1 h2)
        rw [← hpm] at HBM
        have HLT1 := Lib.hid (fun (d : Nat) (h : d < m) => HLT0.out m d h)
        rw [← hpm] at HLT1
        clear hpm
        obtain ⟨⟨bx1, bx2⟩, ⟨bx3, bx4⟩⟩ := pm
        simp only at HBM HLT1
        obtain ⟨x0, x1, _⟩ := H1.out.1
        go_wp2_with fail
        refine (HBM.out _ (HN.out.step H1.out.below) (HL.out.step H1.out.below)).mono ?_
        rintro e w3 ⟨rfl, hb3⟩
        have H3 := Lib.hid ((H1.out.step hb3).step ((below_alloc w3 (.cells #[.int .i64 bx1, .int .i64 bx2] 39)).trans ((below_alloc _ (.cells #[.int .i64 bx3, .int .i64 bx4] 39)).mono (by simp))))
        have HO1 := Lib.hid ((HOWN.out.step hb3).step ((below_alloc w3 (.cells #[.int .i64 bx1, .int .i64 bx2] 39)).trans ((below_alloc _ (.cells #[.int .i64 bx3, .int .i64 bx4] 39)).mono (by simp))))
        have HB7 := Lib.hid ((NB.new w3 w3.heap.size rfl ⟨bx1, bx2⟩).step (below_alloc _ (.cells #[.int .i64 bx3, .int .i64 bx4] 39)))
        have HB8 := Lib.hid (NB.new (w3.alloc (.cells #[.int .i64 bx1, .int .i64 bx2] 39)) (w3.heap.size + 1) (by simp) ⟨bx3, bx4⟩)
        obtain ⟨b7, hb7⟩ : ∃ b, b = w3.heap.size := ⟨_, rfl⟩
        obtain ⟨a0, cp0, rfl, hlm, _⟩ := HO1.out.form
        have hsz1 := H3.out.2.1.1
        have hsz9 : w.heap.size < w3.heap.size + 1 + 1 := by simpa using hsz1
        clear hb3 x0 x1 H1 HOWN
        obtain ⟨hi, hz0, hz1', hz2'⟩ := HI.out
        go_wp2_with (at_builtin; refine wpList_append_own _ rfl _ _ 43 rfl (w.heap.size + 1) 3 i0 (.int .i64 0) 1 8 Tryz.underlying43 hi hz0 hz1' hz2' rfl (by decide) _ _ _ rfl (World.ownsRow.alloc HO1.out _) ⟨_, 0, none⟩ 1 1 [.int .i64 m] rfl rfl ?c1 ?c2 ?c3 ?c4 ?c5 ?_)
        case c1 => have := cell_one_new ((w3.alloc (.cells #[.int .i64 bx1, .int .i64 bx2] 39)).alloc (.cells #[.int .i64 bx3, .int .i64 bx4] 39)) (.int .i64 m) 3; simpa using this
        case c2 => simp [Value.oneCell']
        case c3 => unfold maxLen; omega
        case c4 => omega
        case c5 => simp <;> omega
        intro v' w4 hown hgrow _
        have HOA := Lib.hid (HO1.out.step (below_alloc _ (.cells #[.int .i64 m] 3)))
        have HB7 := Lib.hid ((HB7.out.step (below_alloc _ (.cells #[.int .i64 m] 3))).grown hgrow (by
          exact (HB7.out.step (below_alloc _ (.cells #[.int .i64 m] 3))).farV HOA.out))
        have HB8 := Lib.hid ((HB8.out.step (below_alloc _ (.cells #[.int .i64 m] 3))).grown hgrow (by
          exact (HB8.out.step (below_alloc _ (.cells #[.int .i64 m] 3))).farV HOA.out))
        have H4 := Lib.hid (H3.out.stepB (B := w.heap.size + 1) ⟨Nat.lt_succ_self _, Nat.lt_succ_self _, trivial⟩ (grown_below HO1.out (by omega) hgrow) (Nat.le_succ _))
        have HO2 := Lib.hid (Ints.more hown); clear hown hgrow HOA
        rw [← hb7] at HB7 HB8 ⊢
        clear hb7
        obtain ⟨g, cp, rfl⟩ := HO2.out.some_ (by simp)
        obtain ⟨L, hlen1⟩ : ∃ L, (l ++ [(m : Int)]).length = L := ⟨_, rfl⟩
        rw [hlen1] at HO2 ⊢
        have hL : L = l.length + 1 := by rw [← hlen1]; simp
        have HLL := Lib.hid hL; clear hL
        clear hi hz0 hz1' hz2' hlen1
        go_wp2_with fail
        have HFIN := Lib.hid (show insM lt m l l.length = insL lt m l from rfl)
        rw [← openL_full] at HO2
        generalize insL lt m l = RR at *
        go_loopw [9] (fun i wr => ∃ (q : Nat) (y : Int), q ≤ l.length ∧ i = .int .i64 q ∧ Ints wr (w.heap.size + 1) (.slice (some ⟨g, 0, none⟩) L cp) (openL l y q) ∧ insM lt m l q = RR ∧ NB wr b7 ⟨bx1, bx2⟩ ∧ NB wr (b7 + 1) ⟨bx3, bx4⟩ ∧ Held w wr [(w.heap.size, 0, .slice A ns.length c), (w.heap.size, 1, .slice A2 ls.length c2)]) (fun i _ => (intOf i).toNat)
        case atStart => exact ⟨l.length, m, Nat.le_refl _, rfl, HO2.out, HFIN.out, HB7.out, HB8.out, H4.out⟩
        case round =>
          clear H3 H4 HO1 HO2 HFIN HB7 HB8 hsz1 hsz9
          obtain ⟨q, y, hq, rfl, hown, hR, h7, h8, hh⟩ := hrel
          have HOWN := Lib.hid hown; clear hown
          have H1 := Lib.hid hh; clear hh
          have HB7 := Lib.hid h7; clear h7
          have HB8 := Lib.hid h8; clear h8
          have hol := openL_len l y q hq
          have hL := HLL.out
          cases q with
          | zero =>
            obtain ⟨c0, f0, hgl, hgB, -⟩ := HOWN.out.at_ (j := 0) (by omega)
            generalize atZ (openL l y 0) 0 = z at *
            have HSET := Lib.hid (HOWN.out.set_ (hL.trans hol.symm) 0 m)
            rw [openL_set l y m 0 (by omega), ← insM_zero lt, hR] at HSET
            have HH := Lib.hid (H1.out.setB (j := 0) (x := .int .i64 m) (B := w.heap.size + 1) ⟨Nat.lt_succ_self _, Nat.lt_succ_self _, trivial⟩ hgB (Nat.le_succ _))
            have hz3 : (0 : Int) < (L : Int) := by omega
            clear hL
            rw [show ((0 : Nat) : Int) = 0 from rfl]
            go_wp2_with fail
            exact ⟨⟨m + 1, by omega, by go_num, by rw [HS.out]; exact HSET.out, HH.out⟩, by simp [intOf]; omega⟩
          | succ q =>
            obtain ⟨dx, hdx, hdm⟩ := HAT.out q (by omega)
            obtain ⟨c0, f0, hgl, hgB, -⟩ := HOWN.out.at_ (j := q) (by omega)
            rw [openL_at l y q (by omega), hdx] at c0
            have HLT := Lib.hid (HLT1.out dx hdm)
            have hda : atZ l q = (dx : Int) := hdx
            have HSTOP := Lib.hid (fun h => (insM_stop lt m l q h).symm.trans hR)
            have HON := Lib.hid (fun h => (insM_on lt m l q h).symm.trans hR)
            rw [hda] at HSTOP HON
            generalize hltr : lt (m : Int) (dx : Int) = r at *
            clear hltr
            obtain ⟨pd, hpd⟩ : ∃ q, q = bx dx := ⟨_, rfl⟩
            have HBD := Lib.hid (fun w h1 h2 => HBX.out dx w h1 h2)
            rw [← hpd] at HBD HLT
            clear hpd
            obtain ⟨⟨ax1, ax2⟩, ⟨ax3, ax4⟩⟩ := pd
            simp only at HBD HLT
            have p1 : (0 : Int) ≤ (q : Int) := by omega
            have p2 : (q : Int) < (L : Int) := by omega
            have p3 : (q : Int) + 1 < (L : Int) := by omega
            have p4 : (0 : Int) ≤ (q : Int) + 1 := by omega
            have p7 : (0 : Int) < (q : Int) + 1 := by omega
            rw [show ((q + 1 : Nat) : Int) = (q : Int) + 1 from by omega]
            have ew : IntKind.i64.wrap (q : Int) = (q : Int) := by rw [IntWalk.i64_in _ (by omega)]
            have HQ := Lib.hid hq; clear hq
            have HOL := Lib.hid hol; clear hol
            clear hL
            have HH := Lib.hid (held_plus H1.out (gs := [(g, q, .int .i64 (dx : Int))]) ⟨c0, trivial⟩ ⟨hgl, trivial⟩)
            clear c0 f0
            obtain ⟨x0, x1, x2, _⟩ := HH.out.1
            have HX1 := Lib.hid HLT1; clear HLT1
            go_wp2_with fail
            have HBH3 := Lib.hid HH.out.2.1
            refine regionW (fun W => Held _ W [(w.heap.size, 0, .slice A ns.length c), (w.heap.size, 1, .slice A2 ls.length c2), (g, q, .int .i64 (dx))]) (by kernel_rfl) (Held.start HH.out.1 HH.out.2.1).drew ?_
            refine takeW (i := 0) (v := ?_) (Stable.held _ _) rfl (by kernel_rfl) (by kernel_rfl) (by kernel_rfl) (fun _ _ _ h => h) ?_ ?_
            rotate_left
            · first | (refine Or.inl ⟨by rfl, fun W hS => detR_value (w' := W) ?_ (Below.refl _ _)⟩; obtain ⟨x0, x1, x2, _⟩ := hS.1; go_simp; first | done | with_reducible rfl) | fail
            simp only [Act.put, List.setIfInBounds_toArray, List.set_cons_zero, List.set_cons_succ]
            refine takeW (i := 1) (v := ?_) (Stable.held _ _) rfl (by kernel_rfl) (by kernel_rfl) (by kernel_rfl) (fun _ _ _ h => h) ?_ ?_
            rotate_left
            · first | (refine Or.inl ⟨by rfl, fun W hS => detR_value (w' := W) ?_ (Below.refl _ _)⟩; obtain ⟨x0, x1, x2, _⟩ := hS.1; go_simp; first | done | with_reducible rfl) | fail
            simp only [Act.put, List.setIfInBounds_toArray, List.set_cons_zero, List.set_cons_succ]
            refine takeW (i := 2) (v := ?_) (Stable.held _ _) rfl (by kernel_rfl) (by kernel_rfl) (by kernel_rfl) (fun _ _ _ h => h) ?_ ?_
            rotate_left
            · first | (refine Or.inl ⟨by rfl, fun W hS => detR_value (w' := W) ?_ (Below.refl _ _)⟩; obtain ⟨x0, x1, x2, _⟩ := hS.1; go_simp; first | done | with_reducible rfl) | fail
            simp only [Act.put, List.setIfInBounds_toArray, List.set_cons_zero, List.set_cons_succ]
            refine takeW (i := 3) (v := ?_) (Stable.held _ _) rfl (by kernel_rfl) (by kernel_rfl) (by kernel_rfl) (fun _ _ _ h => h) ?_ ?_
            rotate_left
            · first | (refine Or.inl ⟨by rfl, fun W hS => detR_value (w' := W) ?_ (Below.refl _ _)⟩; obtain ⟨x0, x1, x2, _⟩ := hS.1; go_simp; first | done | with_reducible rfl) | fail
            simp only [Act.put, List.setIfInBounds_toArray, List.set_cons_zero, List.set_cons_succ]
            refine takeW (i := 4) (v := ?_) (Stable.held _ _) rfl (by kernel_rfl) (by kernel_rfl) (by kernel_rfl) (fun _ _ _ h => h) ?_ ?_
            rotate_left
            · first | (refine Or.inl ⟨by rfl, fun W hS => detR_value (w' := W) ?_ (Below.refl _ _)⟩; obtain ⟨x0, x1, x2, _⟩ := hS.1; go_simp; first | done | with_reducible rfl) | fail
            simp only [Act.put, List.setIfInBounds_toArray, List.set_cons_zero, List.set_cons_succ]
            refine takeW (i := 5) (v := ?_) (Stable.held _ _) rfl (by kernel_rfl) (by kernel_rfl) (by kernel_rfl) (fun _ _ _ h => h) ?_ ?_
            rotate_left
            · first | (refine Or.inl ⟨by rfl, fun W hS => detR_value (w' := W) ?_ (Below.refl _ _)⟩; obtain ⟨x0, x1, x2, _⟩ := hS.1; go_simp; first | done | with_reducible rfl) | fail
            simp only [Act.put, List.setIfInBounds_toArray, List.set_cons_zero, List.set_cons_succ]
            refine takeW (i := 6) (v := ?_) (Stable.held _ _) rfl (by kernel_rfl) (by kernel_rfl) (by kernel_rfl) (fun _ _ _ h => h) ?_ ?_
            rotate_left
            · first | (refine Or.inl ⟨by rfl, fun W hS => ?_⟩; have hH := HH.out.after hS; refine detR_call (w' := W) (f := ?_) (args := ?_) ?_ ?_; rotate_left 2; (go_simp; (refine ⟨?_, ?_⟩ <;> with_reducible rfl)); (first | (with_reducible refine (HBD.out _ (HN.out.step hH.below) (HL.out.step hH.below)).mono ?_) | fail); (first | (rintro e wn ⟨rfl, hb⟩; refine ⟨?_, hb⟩; with_reducible rfl) | (rintro e wn ⟨rfl, rfl⟩; refine ⟨?_, Below.refl _ _⟩; with_reducible rfl) | fail)) | fail
            simp only [Act.put, List.setIfInBounds_toArray, List.set_cons_zero, List.set_cons_succ]
            refine takeW (i := 7) (v := ?_) (Stable.held _ _) rfl (by kernel_rfl) (by kernel_rfl) (by kernel_rfl) (fun _ _ _ h => h) ?_ ?_
            rotate_left
            · first | (refine Or.inl ⟨by rfl, fun W hS => detR_value (w' := W) ?_ (Below.refl _ _)⟩; obtain ⟨x0, x1, x2, _⟩ := hS.1; go_simp; first | done | with_reducible rfl) | fail
            simp only [Act.put, List.setIfInBounds_toArray, List.set_cons_zero, List.set_cons_succ]
            refine takeW (i := 8) (v := ?_) (Stable.held _ _) rfl (by kernel_rfl) (by kernel_rfl) (by kernel_rfl) (fun _ _ _ h => h) ?_ ?_
            rotate_left
            · first | (refine Or.inl ⟨by rfl, fun W hS => detR_value (w' := W) ?_ (Below.refl _ _)⟩; obtain ⟨x0, x1, x2, _⟩ := hS.1; go_simp; first | done | with_reducible rfl) | fail
            simp only [Act.put, List.setIfInBounds_toArray, List.set_cons_zero, List.set_cons_succ]
            refine takeW (i := 9) (v := ?_) (Stable.held _ _) rfl (by kernel_rfl) (by kernel_rfl) (by kernel_rfl) (fun _ _ _ h => h) ?_ ?_
            rotate_left
            · first | (refine Or.inl ⟨by rfl, fun W hS => detR_value (w' := W) ?_ (Below.refl _ _)⟩; obtain ⟨x0, x1, x2, _⟩ := hS.1; go_simp; first | done | with_reducible rfl) | fail
            simp only [Act.put, List.setIfInBounds_toArray, List.set_cons_zero, List.set_cons_succ]
            refine freeOr (i := 10) (j := 11) (by kernel_rfl) ?_ ?_
            · refine freeOp (i := 10) (NewB _ 39 2) (Stable.held _ _) (fun v => stable_newB _ _ _ v) rfl (by rfl) (fun W hS => freeR_new (T := 39) (n := 2) (cs := #[.int .i64 0, .int .i64 0]) (by go_simp; first | done | with_reducible rfl) hS.2.2.size rfl) (fun vf hex => ?_)
              clear hex
              simp only [Act.put, List.setIfInBounds_toArray, List.set_cons_zero, List.set_cons_succ]
              refine freeW (i := 11) (fun v => Two _ 39 (Sz 2) (Sz 2) vf v) (Stable.and (Stable.held _ _) (stable_newB _ _ _ _)) (fun v => stable_two _ _ _ _ _ _) rfl (by kernel_rfl) (by rfl) (fun W hS => freeR_after (T := 39) (n := 2) (cs := #[.int .i64 0, .int .i64 0]) (by go_simp; first | done | with_reducible rfl) hS.1.2.2.size rfl hS.2) (fun vs => ?_)
              simp only [Act.put, List.setIfInBounds_toArray, List.set_cons_zero, List.set_cons_succ]
              refine storeA (i := 12) #[.int .i64 ax1, .int .i64 ax2] (.inl rfl) rfl (by kernel_rfl) (by rfl) rfl (by rfl) (by rfl) HBH3.out rfl (by kernel_rfl) (by simp [Value.oneCell']) ?_
              simp only [Act.put, List.setIfInBounds_toArray, List.set_cons_zero, List.set_cons_succ]
              refine storeB (i := 13) #[.int .i64 ax3, .int .i64 ax4] (.inl rfl) rfl (by kernel_rfl) (by rfl) rfl (by rfl) (by rfl) HBH3.out rfl rfl (by kernel_rfl) (by simp [Value.oneCell']) ?_
              simp only [Act.put, List.setIfInBounds_toArray, List.set_cons_zero, List.set_cons_succ]
              refine doneW (by kernel_rfl) fun wH3 HG => ?_
              obtain ⟨⟨⟨⟨hH, _⟩, _⟩, _⟩, ht⟩ := HG
              have BWH3 := Lib.hid hH.2.2
              obtain ⟨b1H3, b2H3, rfl, rfl, hj⟩ := Held.joined2 HH.out hH ht
              have H3 := Lib.hid hj; clear hj hH ht HBH3
              try clear x0 x1 x2
              obtain ⟨x0, x1, x2, x3, x4, x5, x6, _⟩ := H3.out.1
              have H5 := Lib.hid (H1.out.step BWH3.out)
              have HO5 := Lib.hid (HOWN.out.step BWH3.out)
              have HC7 := Lib.hid (HB7.out.step BWH3.out)
              have HC8 := Lib.hid (HB8.out.step BWH3.out)
              clear x0 x3 x4 x5 x6
              have hol := HOL.out
              have hL := HLL.out
              obtain ⟨e0, e1, -, -⟩ := HC7.out.cells
              obtain ⟨e2, e3, -, -⟩ := HC8.out.cells
              obtain ⟨c0, f0, hgl5, -, -⟩ := HO5.out.at_ (j := q) (by omega)
              obtain ⟨c1, f1, -, -, -⟩ := HO5.out.at_ (j := q + 1) (by omega)
              rw [openL_at l y q (by omega), hda] at c0
              generalize atZ (openL l y (q + 1)) (q + 1) = z at *
              have HSETM := Lib.hid (HO5.out.set_ (hL.trans hol.symm) (q + 1) m)
              rw [openL_set l y m (q + 1) HQ.out] at HSETM
              have HSETD := Lib.hid (HO5.out.set_ (hL.trans hol.symm) (q + 1) (dx : Int))
              rw [openL_set l y _ (q + 1) HQ.out, ← hda, openL_down l y q (by omega), hda] at HSETD
              have HHM := Lib.hid (H5.out.setB (j := q + 1) (x := .int .i64 m) (B := w.heap.size + 1) ⟨Nat.lt_succ_self _, Nat.lt_succ_self _, trivial⟩ hgB (Nat.le_succ _))
              have HHD := Lib.hid (H5.out.setB (j := q + 1) (x := .int .i64 (dx : Int)) (B := w.heap.size + 1) ⟨Nat.lt_succ_self _, Nat.lt_succ_self _, trivial⟩ hgB (Nat.le_succ _))
              have HN7 := Lib.hid (HC7.out.setFar (j := q + 1) (x := .int .i64 (dx : Int)) (HC7.out.apart HO5.out))
              have HN8 := Lib.hid (HC8.out.setFar (j := q + 1) (x := .int .i64 (dx : Int)) (HC8.out.apart HO5.out))
              have HDA := Lib.hid hda
              clear hol hL
              cases r
              · have HR2 := Lib.hid (HSTOP.out rfl)
                have hno : ¬ (ax4 < bx4 ∨ ax4 = bx4 ∧ bx1 < ax1) := fun h => by have := HLT.out.2 h; cases this
                clear HLT
                by_cases h1 : bx4 < ax4
                · go_wp2_with fail
                  exact ⟨⟨m + 1, by omega, by go_num, by rw [HS.out, ← HR2.out]; exact HSETM.out, HHM.out⟩, by simp [intOf]; omega⟩
                · have h2 : ax4 = bx4 := by omega
                  have h3 : ax1 ≤ bx1 := by omega
                  have h2b : (ax4 == bx4) = true := by simpa using h2
                  clear hno
                  have H22 := Lib.hid h2; clear h2
                  go_wp2_with fail
                  exact ⟨⟨m + 1, by omega, by go_num, by rw [HS.out, ← HR2.out]; exact HSETM.out, HHM.out⟩, by simp [intOf]; omega⟩
              · have HR2 := Lib.hid (HON.out rfl)
                have hyes := HLT.out.1 rfl
                clear HLT
                have h1 : ¬ bx4 < ax4 := by omega
                by_cases h2 : ax4 = bx4
                · have h3 : ¬ ax1 ≤ bx1 := by omega
                  have h2b : (ax4 == bx4) = true := by simpa using h2
                  have H22 := Lib.hid h2; clear h2 hyes
                  go_wp2_with fail
                  exact ⟨⟨q, _, by have := HQ.out; omega, by go_num, HSETD.out, HR2.out, HN7.out, HN8.out, HHD.out⟩, by simp [intOf]⟩
                · have h2b : (ax4 == bx4) = false := by simpa using h2
                  have h2c : decide (ax4 = bx4) = false := by simpa using h2
                  clear hyes
                  have H22 := Lib.hid h2; clear h2
                  go_wp2_with fail
                  exact ⟨⟨q, _, by have := HQ.out; omega, by go_num, HSETD.out, HR2.out, HN7.out, HN8.out, HHD.out⟩, by simp [intOf]⟩
            · refine freeOp (i := 11) (NewB _ 39 2) (Stable.held _ _) (fun v => stable_newB _ _ _ v) rfl (by rfl) (fun W hS => freeR_new (T := 39) (n := 2) (cs := #[.int .i64 0, .int .i64 0]) (by go_simp; first | done | with_reducible rfl) hS.2.2.size rfl) (fun vf hex => ?_)
              clear hex
              simp only [Act.put, List.setIfInBounds_toArray, List.set_cons_zero, List.set_cons_succ]
              refine freeW (i := 10) (fun v => Two _ 39 (Sz 2) (Sz 2) v vf) (Stable.and (Stable.held _ _) (stable_newB _ _ _ _)) (fun v => stable_two _ _ _ _ _ _) rfl (by kernel_rfl) (by rfl) (fun W hS => freeR_before (T := 39) (n := 2) (cs := #[.int .i64 0, .int .i64 0]) (by go_simp; first | done | with_reducible rfl) hS.1.2.2.size rfl hS.2) (fun vs => ?_)
              simp only [Act.put, List.setIfInBounds_toArray, List.set_cons_zero, List.set_cons_succ]
              refine storeA (i := 12) #[.int .i64 ax1, .int .i64 ax2] (.inr rfl) rfl (by kernel_rfl) (by rfl) rfl (by rfl) (by rfl) HBH3.out rfl (by kernel_rfl) (by simp [Value.oneCell']) ?_
              simp only [Act.put, List.setIfInBounds_toArray, List.set_cons_zero, List.set_cons_succ]
              refine storeB (i := 13) #[.int .i64 ax3, .int .i64 ax4] (.inr rfl) rfl (by kernel_rfl) (by rfl) rfl (by rfl) (by rfl) HBH3.out rfl rfl (by kernel_rfl) (by simp [Value.oneCell']) ?_
              simp only [Act.put, List.setIfInBounds_toArray, List.set_cons_zero, List.set_cons_succ]
              refine doneW (by kernel_rfl) fun wH3 HG => ?_
              obtain ⟨⟨⟨⟨hH, _⟩, _⟩, _⟩, ht⟩ := HG
              have BWH3 := Lib.hid hH.2.2
              obtain ⟨b1H3, b2H3, rfl, rfl, hj⟩ := Held.joined2 HH.out hH ht
              have H3 := Lib.hid hj; clear hj hH ht HBH3
              try clear x0 x1 x2
              obtain ⟨x0, x1, x2, x3, x4, x5, x6, _⟩ := H3.out.1
              have H5 := Lib.hid (H1.out.step BWH3.out)
              have HO5 := Lib.hid (HOWN.out.step BWH3.out)
              have HC7 := Lib.hid (HB7.out.step BWH3.out)
              have HC8 := Lib.hid (HB8.out.step BWH3.out)
              clear x0 x3 x4 x5 x6
              have hol := HOL.out
              have hL := HLL.out
              obtain ⟨e0, e1, -, -⟩ := HC7.out.cells
              obtain ⟨e2, e3, -, -⟩ := HC8.out.cells
              obtain ⟨c0, f0, hgl5, -, -⟩ := HO5.out.at_ (j := q) (by omega)
              obtain ⟨c1, f1, -, -, -⟩ := HO5.out.at_ (j := q + 1) (by omega)
              rw [openL_at l y q (by omega), hda] at c0
              generalize atZ (openL l y (q + 1)) (q + 1) = z at *
              have HSETM := Lib.hid (HO5.out.set_ (hL.trans hol.symm) (q + 1) m)
              rw [openL_set l y m (q + 1) HQ.out] at HSETM
              have HSETD := Lib.hid (HO5.out.set_ (hL.trans hol.symm) (q + 1) (dx : Int))
              rw [openL_set l y _ (q + 1) HQ.out, ← hda, openL_down l y q (by omega), hda] at HSETD
              have HHM := Lib.hid (H5.out.setB (j := q + 1) (x := .int .i64 m) (B := w.heap.size + 1) ⟨Nat.lt_succ_self _, Nat.lt_succ_self _, trivial⟩ hgB (Nat.le_succ _))
              have HHD := Lib.hid (H5.out.setB (j := q + 1) (x := .int .i64 (dx : Int)) (B := w.heap.size + 1) ⟨Nat.lt_succ_self _, Nat.lt_succ_self _, trivial⟩ hgB (Nat.le_succ _))
              have HN7 := Lib.hid (HC7.out.setFar (j := q + 1) (x := .int .i64 (dx : Int)) (HC7.out.apart HO5.out))
              have HN8 := Lib.hid (HC8.out.setFar (j := q + 1) (x := .int .i64 (dx : Int)) (HC8.out.apart HO5.out))
              have HDA := Lib.hid hda
              clear hol hL
              cases r
              · have HR2 := Lib.hid (HSTOP.out rfl)
                have hno : ¬ (ax4 < bx4 ∨ ax4 = bx4 ∧ bx1 < ax1) := fun h => by have := HLT.out.2 h; cases this
                clear HLT
                by_cases h1 : bx4 < ax4
                · go_wp2_with fail
                  exact ⟨⟨m + 1, by omega, by go_num, by rw [HS.out, ← HR2.out]; exact HSETM.out, HHM.out⟩, by simp [intOf]; omega⟩
                · have h2 : ax4 = bx4 := by omega
                  have h3 : ax1 ≤ bx1 := by omega
                  have h2b : (ax4 == bx4) = true := by simpa using h2
                  clear hno
                  have H22 := Lib.hid h2; clear h2
                  go_wp2_with fail
                  exact ⟨⟨m + 1, by omega, by go_num, by rw [HS.out, ← HR2.out]; exact HSETM.out, HHM.out⟩, by simp [intOf]; omega⟩
              · have HR2 := Lib.hid (HON.out rfl)
                have hyes := HLT.out.1 rfl
                clear HLT
                have h1 : ¬ bx4 < ax4 := by omega
                by_cases h2 : ax4 = bx4
                · have h3 : ¬ ax1 ≤ bx1 := by omega
                  have h2b : (ax4 == bx4) = true := by simpa using h2
                  have H22 := Lib.hid h2; clear h2 hyes
                  go_wp2_with fail
                  exact ⟨⟨q, _, by have := HQ.out; omega, by go_num, HSETD.out, HR2.out, HN7.out, HN8.out, HHD.out⟩, by simp [intOf]⟩
                · have h2b : (ax4 == bx4) = false := by simpa using h2
                  have h2c : decide (ax4 = bx4) = false := by simpa using h2
                  clear hyes
                  have H22 := Lib.hid h2; clear h2
                  go_wp2_with fail
                  exact ⟨⟨q, _, by have := HQ.out; omega, by go_num, HSETD.out, HR2.out, HN7.out, HN8.out, HHD.out⟩, by simp [intOf]⟩
      · go_wp2_with fail
        exact ⟨⟨m + 1, by omega, by go_num, by rw [HS.out]; exact HOWN.out, H1.out⟩, by simp [intOf]; omega⟩
    · obtain rfl : m = rs.length := by omega
      go_wp2_with fail
      go_ret
      exact ⟨_, rfl, by rw [HR.out]; exact HOWN.out.mono (Nat.le_succ _), H1.out.below⟩
end Go.Proofs.YtmboilogcnmlnaaGreat

namespace Go.Proofs.YtmboilogcnmlnaaGreat
open Go.RowKit
set_option linter.unusedVariables false
set_option linter.unusedSimpArgs false

/-- The numbers 1 to n. -/
def numK (n : Nat) : List Int := (List.range n).map fun k : Nat => (k : Int) + 1

theorem numK_succ (n : Nat) : numK (n + 1) = numK n ++ [(n : Int) + 1] := by simp [numK, List.range_succ]

theorem numK_len (n : Nat) : (numK n).length = n := by simp [numK]

theorem numK_at {n k : Nat} (h : k < n) : atZ (numK n) k = (k : Int) + 1 := by simp [atZ, numK, List.getD, h]

/-- Block b holds the two slices. -/
def RB (W : World) (b : Nat) (x y : Value) : Prop := W.heap[b]? = some (.cells #[x, y] 79)

section

variable {W W' : World} {b g : Nat} {x y : Value}

theorem RB.lt (h : RB W b x y) : b < W.heap.size := lt_of_block h

theorem RB.cells (h : RB W b x y) : W.cell? ⟨b, 0, none⟩ = some x ∧ W.cell? ⟨b, 1, none⟩ = some y ∧ W.frozen? ⟨b, 0, none⟩ = false ∧ W.frozen? ⟨b, 1, none⟩ = false := by
  unfold RB at h
  refine ⟨(cell_of_cells (k := 0) h).trans rfl, (cell_of_cells (k := 1) h).trans rfl, ?_, ?_⟩ <;> simp [World.frozen?, h]

theorem RB.step (h : RB W b x y) (hb : Below W.heap.size W W') : RB W' b x y := (hb.block _ h.lt).trans h

theorem RB.put1 (h : RB W b x y) (z : Value) : RB (W.setCell ⟨b, 1, none⟩ z) b x z := heap_setCell_self (k := 1) h z

theorem RB.far (h : RB W b x y) (hne : b ≠ g) (j : Nat) (z : Value) : RB (W.setCell ⟨g, j, none⟩ z) b x y := (Below.heap_setCell _ _ _ _ hne).trans h

theorem RB.farV {B : Nat} {v : Value} {xs : List Int} (h : RB W b x y) (hi : Ints W B v xs) : v.ownBlock ≠ some b := by
  intro e
  obtain ⟨cur, hc⟩ := hi.typed e
  unfold RB at h
  rw [h] at hc
  simp at hc

theorem RB.grown {row : Option Nat} (h : RB W b x y) (hg : W.grownBy W' row) (hr : row ≠ some b) : RB W' b x y := (hg.block _ h.lt fun e => hr e.symm).trans h

end

/-- What numbers returns: the faces and their numbers. -/
def NumsNew (xs : List Int) (w : World) (e : Ending) (w' : World) : Prop := ∃ vf vk, e = .returned (.agg #[vf, vk]) ∧ Ints w' w.heap.size vf xs ∧ Ints w' w.heap.size vk (numK xs.length) ∧ Below w.heap.size w w'

set_option maxRecDepth 100000 in
set_option maxHeartbeats 2000000 in
theorem implNumG (v1 v2 v3 v4 : Value) (rs : List (List Int)) (ds : List Int) (ns ls : List Nd) (B : Nat) (w : World) (hn : Prs w v1 ns) (hl : Prs w v2 ls) (hf : Faces w B v3 rs) (ha : Ints w B v4 ds) (hok : RowsOk ns ls rs) (h20 : ls.length ≤ 20) (h12 : (fltN (innP (firstI (outP ns ls rs) rs.length)) rs.length).length ≤ 12) :
    Calls Tryz.prog 62 #[.agg #[v1, v2, v3, v4]] w (NumsNew (sortL (ltR (bxR ns ls rs)) (fltN (innP (firstI (outP ns ls rs) rs.length)) rs.length)) w) := by
  have HRD := Lib.hid (fun W hb => implReadG v1 v2 v3 v4 rs ds ns ls B W (hn.step hb) (hl.step hb) (hf.step hb) (ha.step hb) hok h20 h12)
  unfold SomeInts at HRD
  have hxl : (sortL (ltR (bxR ns ls rs)) (fltN (innP (firstI (outP ns ls rs) rs.length)) rs.length)).length ≤ 12 := by rw [sortL_len _ _ _ rfl]; exact h12
  generalize sortL (ltR (bxR ns ls rs)) (fltN (innP (firstI (outP ns ls rs) rs.length)) rs.length) = xs at *
  have H0 := Lib.hid ((heldG w v1 v2 v3 v4 66).alloc (.cells #[.slice none 0 0, .slice none 0 0] 79))
  have HZ0 := Lib.hid (show RB ((w.alloc (.cells #[v1, v2, v3, v4] 66)).alloc (.cells #[.slice none 0 0, .slice none 0 0] 79)) (w.heap.size + 1) (.slice none 0 0) (.slice none 0 0) from by
    have := heap_alloc_new (w.alloc (.cells #[v1, v2, v3, v4] 66)) (.cells #[.slice none 0 0, .slice none 0 0] 79)
    simpa [RB] using this)
  obtain ⟨A, c, rfl⟩ := prs_form2 hn
  obtain ⟨A2, c2, rfl⟩ := prs_form2 hl
  obtain ⟨A3, c3, rfl⟩ := faces_form hf
  obtain ⟨A4, c4, rfl⟩ := ints_form ha
  clear hn hl hf ha hok h12 h20
  unfold NumsNew
  have HU := Lib.hid numK_succ
  have HLN := Lib.hid numK_len
  have HK0 := Lib.hid (show numK 0 = [] from rfl)
  generalize numK = X at *
  obtain ⟨i0, hi, hz0, hz1, hz2⟩ := info_parts infoInt
  have HI := Lib.hid (And.intro hi (And.intro hz0 (And.intro hz1 hz2))); clear hi hz0 hz1 hz2
  go_enter Tryz.func62, Tryz.ntmps62
  obtain ⟨x0, x1, x2, x3, _⟩ := H0.out.1
  go_wp2_with fail
  refine (HRD.out _ H0.out.below).mono ?_
  rintro e w1 ⟨g, cg, rfl, hi, hb⟩
  have H1 := Lib.hid ((H0.out.step hb).drop)
  have HZ1 := Lib.hid (HZ0.out.step hb)
  have HF1 := Lib.hid (hi.mono (b' := w.heap.size) (by simp; omega))
  clear hi hb x0 x1 x2 x3 H0 HZ0
  have b1 := below_alloc w1 (.cells #[.slice (some ⟨g, 0, none⟩) xs.length cg, .slice none 0 0] 79)
  have HRB := Lib.hid (show RB (w1.alloc (.cells #[.slice (some ⟨g, 0, none⟩) xs.length cg, .slice none 0 0] 79)) w1.heap.size (.slice (some ⟨g, 0, none⟩) xs.length cg) (.slice none 0 0) from heap_alloc_new _ _)
  have HZ2 := Lib.hid (HZ1.out.step b1)
  have HF2 := Lib.hid (HF1.out.step b1)
  have H2 := Lib.hid (H1.out.step b1)
  have hg1 := (HF1.out.own g rfl).2
  have hz1l := HZ1.out.lt
  clear b1
  obtain ⟨e2, e3, -, -⟩ := HRB.out.cells
  go_wp2_with fail
  clear e2 e3
  obtain ⟨b3, hb3⟩ : ∃ b, b = w1.heap.size := ⟨_, rfl⟩
  rw [← hb3] at HRB hg1 hz1l ⊢
  have HB3 := Lib.hid hb3; clear hb3
  go_loopw [11] (fun i wr => ∃ (m : Nat) (vk : Value), m ≤ xs.length ∧ i = .int .i64 m ∧ Ints wr (b3 + 1) vk (X m) ∧ Ints wr w.heap.size (.slice (some ⟨g, 0, none⟩) xs.length cg) xs ∧ RB wr b3 (.slice (some ⟨g, 0, none⟩) xs.length cg) vk ∧ RB wr (w.heap.size + 1) (.slice none 0 0) (.slice none 0 0) ∧ Held w wr []) (fun i _ => xs.length - (intOf i).toNat)
  case atStart => exact ⟨0, .slice none 0 0, Nat.zero_le _, rfl, by rw [HK0.out]; exact Ints.nil _ _, HF2.out, HRB.out, HZ2.out, H2.out⟩
  case round =>
    clear HRB HZ2 HF2 H2
    obtain ⟨m, vk, hm, rfl, hk, hff, hr, hz, hh⟩ := hrel
    have HO := Lib.hid hk; clear hk
    have HF := Lib.hid hff; clear hff
    have HR := Lib.hid hr; clear hr
    have HZ := Lib.hid hz; clear hz
    have H1 := Lib.hid hh; clear hh
    obtain ⟨ak, ck, rfl⟩ := ints_form HO.out
    obtain ⟨e2, e3, f2, f3⟩ := HR.out.cells
    have hlr := HR.out.lt
    by_cases hlt : m < xs.length
    · have HUM := Lib.hid (HU.out m)
      have hln : (X m).length ≤ 12 := by have := HLN.out m; omega
      have p2 : (m : Int) < (xs.length : Int) := by omega
      have ew : IntKind.i64.wrap ((m : Int) + 1) = (m : Int) + 1 := IntWalk.i64_in _ (by omega)
      obtain ⟨hi, hz0, hzz1, hzz2⟩ := HI.out
      go_wp2_with (at_builtin; refine wpList_append_own _ rfl _ _ 43 rfl (b3 + 1) 3 i0 (.int .i64 0) 1 8 Tryz.underlying43 hi hz0 hzz1 hzz2 rfl (by decide) _ _ _ rfl (World.ownsRow.alloc HO.out _) ⟨_, 0, none⟩ 1 1 [.int .i64 ((m : Int) + 1)] rfl rfl ?c1 ?c2 ?c3 ?c4 ?c5 ?_)
      case c1 => exact cell_one_new _ _ _
      case c2 => simp [Value.oneCell']
      case c3 => unfold maxLen; omega
      case c4 => omega
      case c5 => simp <;> omega
      intro v' w5 hown hgrow _
      have ba := below_alloc wr (.cells #[.int .i64 ((m : Int) + 1)] 3)
      have HOA := Lib.hid (HO.out.step ba)
      have HRA := Lib.hid ((HR.out.step ba).grown hgrow ((HR.out.step ba).farV HOA.out))
      have HZA := Lib.hid ((HZ.out.step ba).grown hgrow ((HZ.out.step ba).farV HOA.out))
      have HFA := Lib.hid ((HF.out.step ba).keep fun k e => hgrow.block k ((HF.out.step ba).own k e).2 (fun e2 => by
        have h1 := (HOA.out.own k e2.symm).1
        simp [Value.ownBlock] at e
        omega))
      have H5 := Lib.hid (show Held w w5 [] from ⟨trivial, trivial, (H1.out.below.trans (ba.mono H1.out.below.size)).grown hgrow (by simp; have := H1.out.below.size; omega) (fun k e => by have := (HOA.out.own k e).1; omega)⟩)
      have HO5 := Lib.hid (Ints.more hown)
      have hsz5 := hgrow.size
      clear hown ba hgrow
      obtain ⟨g5, c5, rfl⟩ := HO5.out.some_ (by simp)
      obtain ⟨L5, hL5⟩ : ∃ L, L = (X m ++ [(m : Int) + 1]).length := ⟨_, rfl⟩
      rw [← hL5] at HO5 ⊢
      clear hL5
      obtain ⟨e4, e5, f4, f5⟩ := HRA.out.cells
      have HR6 := Lib.hid (HRA.out.put1 (.slice (some ⟨g5, 0, none⟩) L5 c5))
      have HZ6 := Lib.hid (HZA.out.far (g := b3) (by omega) 1 (.slice (some ⟨g5, 0, none⟩) L5 c5))
      have HF6 := Lib.hid (HFA.out.keep (w' := w5.setCell ⟨b3, 1, none⟩ (.slice (some ⟨g5, 0, none⟩) L5 c5)) fun k e => Below.heap_setCell _ _ _ _ (by show k ≠ b3; simp [Value.ownBlock] at e; omega))
      have HO6 := Lib.hid (HO5.out.keep (w' := w5.setCell ⟨b3, 1, none⟩ (.slice (some ⟨g5, 0, none⟩) L5 c5)) fun k e => Below.heap_setCell _ _ _ _ (by show k ≠ b3; have := (HO5.out.own k e).1; omega))
      have H6 := Lib.hid (H5.out.setB (g := b3) (j := 1) (x := .slice (some ⟨g5, 0, none⟩) L5 c5) (B := b3) trivial (Nat.le_refl _) (by omega))
      clear e2 e3 f2 f3
      go_wp2_with fail
      exact ⟨⟨m + 1, _, by omega, by go_num, by rw [HUM.out]; exact HO6.out, HF6.out, HR6.out, HZ6.out, H6.out⟩, by simp [intOf]; omega⟩
    · obtain rfl : m = xs.length := by omega
      obtain ⟨e4, e5, f4, f5⟩ := HZ.out.cells
      have hlz := HZ.out.lt
      have hne : w.heap.size + 1 ≠ b3 := by omega
      go_wp2_with fail
      have K := HZ.out
      unfold RB at K
      have m0 := heap_setCell_self (k := 0) K (.slice (some ⟨g, 0, none⟩) xs.length cg)
      have m1 := heap_setCell_self (k := 1) m0 (.slice ak (X xs.length).length ck)
      have r0 := (cell_of_cells (k := 0) m1).trans rfl
      have r1 := (cell_of_cells (k := 1) m1).trans rfl
      have hB := (H1.out.below.setCell (p := ⟨w.heap.size + 1, 0, none⟩) (by show w.heap.size ≤ w.heap.size + 1; omega) (.slice (some ⟨g, 0, none⟩) xs.length cg)).setCell (p := ⟨w.heap.size + 1, 1, none⟩) (by show w.heap.size ≤ w.heap.size + 1; omega) (.slice ak (X xs.length).length ck)
      refine bodyPost_ret (v := .agg #[.slice (some ⟨g, 0, none⟩) xs.length cg, .slice ak (X xs.length).length ck]) (by simp [results, Tryz.results62, go_sem, r0, r1]) rfl ⟨_, _, rfl, ?_, ?_, hB⟩
      · exact HF.out.keep fun k e => (Below.heap_setCell _ _ _ _ (by show k ≠ w.heap.size + 1; intro e2; exact HZ.out.farV HF.out (by rw [e, e2]))).trans (Below.heap_setCell _ _ _ _ (by show k ≠ w.heap.size + 1; intro e2; exact HZ.out.farV HF.out (by rw [e, e2])))
      · exact (HO.out.mono (b' := w.heap.size) (by omega)).keep fun k e => (Below.heap_setCell _ _ _ _ (by show k ≠ w.heap.size + 1; intro e2; exact HZ.out.farV HO.out (by rw [e, e2]))).trans (Below.heap_setCell _ _ _ _ (by show k ≠ w.heap.size + 1; intro e2; exact HZ.out.farV HO.out (by rw [e, e2])))

/-- The first place of x, or -1. -/
def plc (xs : List Int) (x : Int) : Int := firstI (fun k => atZ xs k == x) xs.length

theorem plc_hit {xs : List Int} {x : Int} {m : Nat} (hm : m < xs.length) (h : atZ xs m = x) (hb : ∀ j, j < m → atZ xs j ≠ x) : plc xs x = (m : Int) := firstI_at (fun j hj => by simpa using hb j hj) (by simpa using h) _ hm

theorem plc_miss {xs : List Int} {x : Int} (hb : ∀ j, j < xs.length → atZ xs j ≠ x) : plc xs x = -1 := firstI_none _ fun j hj => by simpa using hb j hj

theorem plc_cases (xs : List Int) (x : Int) : (plc xs x = -1 ∧ ∀ j, j < xs.length → atZ xs j ≠ x) ∨ ∃ m : Nat, plc xs x = (m : Int) ∧ m < xs.length ∧ atZ xs m = x := by
  rcases firstI_cases (fun k => atZ xs k == x) xs.length with ⟨h1, h2⟩ | ⟨m, h1, h2, h3, _⟩
  · exact .inl ⟨h1, fun j hj => by simpa using h2 j hj⟩
  · exact .inr ⟨m, h1, h2, by simpa using h3⟩

theorem plc_num {n : Nat} {x : Int} : plc (numK n) x = if 1 ≤ x ∧ x ≤ (n : Int) then x - 1 else -1 := by
  by_cases h : 1 ≤ x ∧ x ≤ (n : Int)
  · rw [if_pos h]
    have := plc_hit (xs := numK n) (x := x) (m := (x - 1).toNat) (by rw [numK_len]; omega) (by rw [numK_at (by omega)]; omega) (fun j hj => by rw [numK_at (by omega)]; omega)
    rw [this]; omega
  · rw [if_neg h]
    exact plc_miss fun j hj => by
      rw [numK_len] at hj
      rw [numK_at hj]; omega

set_option maxRecDepth 100000 in
theorem idxSeq (xs : List Int) (v : Value) (x : Int) (w : World) (hv : Seq w v xs) : Calls Tryz.prog 101 #[v, .int .i64 x] w (IntIs (plc xs x) w) := by
  have hlen := hv.len
  have HV := Lib.hid hv
  obtain ⟨A, c, rfl⟩ := seq_form2 hv
  clear hv
  have HHIT := Lib.hid (fun m hm h hb => plc_hit (xs := xs) (x := x) (m := m) hm h hb)
  have HMISS := Lib.hid (fun h => plc_miss (xs := xs) (x := x) h)
  generalize plc xs x = r at *
  go_enter Tryz.func101, Tryz.ntmps101
  go_wp2_with fail
  go_loopw [8] (fun i wr => ∃ m : Nat, m ≤ xs.length ∧ i = .int .i64 m ∧ (∀ j, j < m → atZ xs j ≠ x) ∧ Held w wr []) (fun i _ => xs.length - (intOf i).toNat)
  case atStart => exact ⟨0, Nat.zero_le _, rfl, fun j hj => by omega, Held.none_ w⟩
  case round =>
    obtain ⟨m, hm, rfl, ha, hh⟩ := hrel
    have HA := Lib.hid ha; clear ha
    have H1 := Lib.hid hh; clear hh
    by_cases hlt : m < xs.length
    · obtain ⟨A6', c6', e6, -, -, hcs⟩ := (HV.out.step H1.out.below).form
      simp only [Value.slice.injEq] at e6
      obtain ⟨rfl, -, -⟩ := e6
      obtain ⟨bb, oo, rfl, -, k0⟩ := hcs m hlt
      clear hcs
      have q1 : (0 : Int) ≤ m := by omega
      have q2 : (m : Int) < (xs.length : Int) := by omega
      have HHM := Lib.hid (fun h => HHIT.out m hlt h HA.out)
      have HAM := Lib.hid (fun (h : atZ xs m ≠ x) => (fun j (hj : j < m + 1) => (if e : j = m then e ▸ h else HA.out j (by omega)) : ∀ j, j < m + 1 → atZ xs j ≠ x))
      generalize atZ xs m = z at *
      by_cases hz : z = x
      · have HR := Lib.hid (HHM.out hz)
        have hzb : (x == z) = true := by simp [hz]
        clear hz
        go_wp2_with fail
        go_ret
        exact ⟨ret_int HR.out.symm, H1.out.below⟩
      · have HR := Lib.hid (HAM.out hz)
        have hzb : (x == z) = false := by rw [beq_eq_false_iff_ne]; exact fun e => hz e.symm
        have hzd : decide (x = z) = false := by simpa using fun e : x = z => hz e.symm
        clear hz
        go_wp2_with fail
        exact ⟨⟨m + 1, by omega, by go_num, HR.out, H1.out⟩, by simp [intOf]; omega⟩
    · obtain rfl : m = xs.length := by omega
      have HR := Lib.hid (HMISS.out HA.out)
      go_wp2_with fail
      go_ret
      exact ⟨ret_int HR.out.symm, H1.out.below⟩

/-- The face with number n in a list of faces, or -1. -/
def fwnI (xs : List Int) (n : Int) : Int := if 1 ≤ n ∧ n ≤ (xs.length : Int) then atZ xs (n - 1).toNat else -1

set_option maxRecDepth 100000 in
theorem implKeyOf (xs : List Int) (B : Nat) (vf vk : Value) (f : Int) (w : World) (hf : Ints w B vf xs) (hk : Ints w B vk (numK xs.length)) (h12 : xs.length ≤ 12) :
    Calls Tryz.prog 63 #[.agg #[vf, vk], .int .i64 f] w (IntIs (plc xs f + 1) w) := by
  have HX := Lib.hid (fun w h => idxSeq xs vf f w h)
  unfold IntIs at HX
  have H0 := Lib.hid ((Held.none_ w).new2 w.heap.size rfl [vf, vk] 79)
  simp only [newFs, List.cons_append, List.nil_append, List.append_nil] at H0
  have HF := Lib.hid hf.seq
  have HK := Lib.hid hk.seq
  have HKA := Lib.hid (fun k (h : k < xs.length) => numK_at h)
  have HKL := Lib.hid (numK_len xs.length)
  obtain ⟨a, c, rfl⟩ := ints_form hf
  obtain ⟨a2, c2, rfl⟩ := ints_form hk
  clear hf hk
  generalize numK xs.length = ks at *
  have HC := Lib.hid (plc_cases xs f)
  generalize plc xs f = r at *
  rcases HC.out with ⟨h1, -⟩ | ⟨m, h1, hm, -⟩
  · subst h1
    go_enter Tryz.func63, Tryz.ntmps63
    obtain ⟨x0, x1, _⟩ := H0.out.1
    go_wp2_with fail
    refine (HX.out _ (HF.out.step H0.out.below)).mono ?_
    rintro e wH1 ⟨rfl, hb⟩
    have H1 := Lib.hid ((H0.out).step hb); clear hb
    try clear x0 x1
    obtain ⟨x0, x1, _⟩ := H1.out.1
    go_wp2_with fail
    go_ret
    exact ⟨rfl, H1.out.below⟩
  · subst h1
    go_enter Tryz.func63, Tryz.ntmps63
    obtain ⟨x0, x1, _⟩ := H0.out.1
    go_wp2_with fail
    refine (HX.out _ (HF.out.step H0.out.below)).mono ?_
    rintro e w1 ⟨rfl, hb⟩
    have H1 := Lib.hid (H0.out.step hb)
    clear hb x0 x1
    obtain ⟨x0, x1, _⟩ := H1.out.1
    obtain ⟨A6', c6', e6, -, -, hcs⟩ := (HK.out.step H1.out.below).form
    simp only [Value.slice.injEq] at e6
    obtain ⟨rfl, -, -⟩ := e6
    obtain ⟨bb, oo, rfl, -, k0⟩ := hcs m (by have := HKL.out; omega)
    rw [HKA.out m hm] at k0
    clear hcs
    have q1 : (0 : Int) ≤ m := by omega
    have q2 : (m : Int) < (ks.length : Int) := by have := HKL.out; omega
    go_wp2_with fail
    go_ret
    exact ⟨rfl, H1.out.below⟩

set_option maxRecDepth 100000 in
theorem implFaceWithN (xs : List Int) (B : Nat) (vf vk : Value) (n : Int) (w : World) (hf : Ints w B vf xs) (hk : Ints w B vk (numK xs.length)) (h12 : xs.length ≤ 12) :
    Calls Tryz.prog 65 #[.agg #[vf, vk], .int .i64 n] w (IntIs (fwnI xs n) w) := by
  have HX := Lib.hid (fun w h => idxSeq (numK xs.length) vk n w h)
  unfold IntIs at HX
  have H0 := Lib.hid ((Held.none_ w).new2 w.heap.size rfl [vf, vk] 79)
  simp only [newFs, List.cons_append, List.nil_append, List.append_nil] at H0
  have HF := Lib.hid hf.seq
  have HK := Lib.hid hk.seq
  rw [plc_num] at HX
  obtain ⟨a, c, rfl⟩ := ints_form hf
  obtain ⟨a2, c2, rfl⟩ := ints_form hk
  clear hf hk
  generalize numK xs.length = ks at *
  by_cases h : 1 ≤ n ∧ n ≤ (xs.length : Int)
  · have HR := Lib.hid (show fwnI xs n = atZ xs (n - 1).toNat from if_pos h)
    rw [if_pos h] at HX
    generalize fwnI xs n = r at *
    obtain ⟨m, hm1, hm2⟩ : ∃ m : Nat, n - 1 = (m : Int) ∧ m < xs.length := ⟨(n - 1).toNat, by omega, by omega⟩
    rw [hm1] at HX HR
    rw [Int.toNat_natCast] at HR
    clear h hm1
    go_enter Tryz.func65, Tryz.ntmps65
    obtain ⟨x0, x1, _⟩ := H0.out.1
    go_wp2_with fail
    refine (HX.out _ (HK.out.step H0.out.below)).mono ?_
    rintro e w1 ⟨rfl, hb⟩
    have H1 := Lib.hid (H0.out.step hb)
    clear hb x0 x1
    obtain ⟨x0, x1, _⟩ := H1.out.1
    obtain ⟨A6', c6', e6, -, -, hcs⟩ := (HF.out.step H1.out.below).form
    simp only [Value.slice.injEq] at e6
    obtain ⟨rfl, -, -⟩ := e6
    obtain ⟨bb, oo, rfl, -, k0⟩ := hcs m hm2
    clear hcs
    have q1 : (0 : Int) ≤ m := by omega
    have q2 : (m : Int) < (xs.length : Int) := by omega
    generalize atZ xs m = z at *
    go_wp2_with fail
    go_ret
    exact ⟨ret_int HR.out.symm, H1.out.below⟩
  · have HR := Lib.hid (show fwnI xs n = -1 from if_neg h)
    rw [if_neg h] at HX
    generalize fwnI xs n = r at *
    clear h
    go_enter Tryz.func65, Tryz.ntmps65
    obtain ⟨x0, x1, _⟩ := H0.out.1
    go_wp2_with fail
    refine (HX.out _ (HK.out.step H0.out.below)).mono ?_
    rintro e wH1 ⟨rfl, hb⟩
    have H1 := Lib.hid ((H0.out).step hb); clear hb
    try clear x0 x1
    obtain ⟨x0, x1, _⟩ := H1.out.1
    go_wp2_with fail
    go_ret
    exact ⟨ret_int HR.out.symm, H1.out.below⟩

set_option maxRecDepth 100000 in
theorem implNumberOf (ns ls : List Nd) (vn vl : Value) (f : Int) (w : World) (hn : Prs w vn ns) (hl : Prs w vl ls) :
    Calls Tryz.prog 31 #[.agg #[vn, vl], .int .i64 f] w (IntIs (plc (readL ns ls) f + 1) w) := by
  have HS := Lib.hid (fun v1 v2 v3 v4 B w h1 h2 h3 h4 h12 => implNumG v1 v2 v3 v4 (wF ns ls) (gA ns ls) (gN ns ls) (gL ns ls) B w h1 h2 h3 h4 (g_ok ns ls) (g_len ns ls).2 h12)
  rw [g_outer] at HS
  have HS := Lib.hid (fun v1 v2 v3 v4 B w h1 h2 h3 h4 => HS.out v1 v2 v3 v4 B w h1 h2 h3 h4 (inn_twelve ns ls))
  rw [show fltN (innP (outW ns ls)) (wF ns ls).length = innW ns ls from rfl, read_congr] at HS
  unfold NumsNew at HS
  have HKY := Lib.hid (fun vf vk B w h1 h2 => implKeyOf (readL ns ls) B vf vk f w h1 h2 (readL_twelve ns ls))
  unfold IntIs at HKY
  have HN := Lib.hid hn
  have HL := Lib.hid hl
  have HGL := Lib.hid (fun w h1 h2 => implGlass ns ls vn vl w h1 h2)
  unfold GlassNew at HGL
  have H0 := Lib.hid (held_pair w vn vl 31)
  obtain ⟨A, c, rfl⟩ := prs_form2 hn
  obtain ⟨A2, c2, rfl⟩ := prs_form2 hl
  clear hn hl
  generalize plc (readL ns ls) f + 1 = res at *
  generalize readL ns ls = xs at *
  generalize gN ns ls = ns' at *
  generalize gL ns ls = ls' at *
  generalize gA ns ls = ds at *
  generalize wF ns ls = rs at *
  generalize wholeB ns ls = ok at *
  go_enter Tryz.func31, Tryz.ntmps31
  go_wp2_with fail
  refine (HGL.out _ (HN.out.step H0.out.below) (HL.out.step H0.out.below)).mono ?_
  rintro e w1 ⟨v1, v2, v3, v4, rfl, g1, g2, g3, g4, hb⟩
  have H1 := Lib.hid (H0.out.step hb)
  have G0 := Lib.hid (heldG w1 v1 v2 v3 v4 66)
  have B1 := Lib.hid (H1.out.below.trans (G0.out.below.mono H1.out.below.size))
  have G1 := Lib.hid (g1.step G0.out.below)
  have G2 := Lib.hid (g2.step G0.out.below)
  have G3 := Lib.hid (g3.step G0.out.below)
  have G4 := Lib.hid (g4.step G0.out.below)
  obtain ⟨A5, c5, rfl⟩ := prs_form2 g1
  obtain ⟨A6, c6, rfl⟩ := prs_form2 g2
  obtain ⟨A7, c7, rfl⟩ := faces_form g3
  obtain ⟨A8, c8, rfl⟩ := ints_form g4
  clear hb g1 g2 g3 g4
  obtain ⟨x0, x1, _⟩ := H1.out.1
  obtain ⟨y0, y1, y2, y3, _⟩ := G0.out.1
  go_wp2_with fail
  refine (HS.out _ _ _ _ _ _ G1.out G2.out G3.out G4.out).mono ?_
  rintro e w2 ⟨vf, vk, rfl, hf, hk, hb⟩
  have B2 := Lib.hid (B1.out.trans (hb.mono B1.out.size))
  have HF := Lib.hid hf
  have HK := Lib.hid hk
  obtain ⟨a9, c9, rfl⟩ := ints_form hf
  obtain ⟨a8, c8, rfl⟩ := ints_form hk
  clear hb hf hk
  go_wp2_with fail
  refine (HKY.out _ _ _ _ HF.out HK.out).mono ?_
  rintro e w3 ⟨rfl, hb⟩
  have B3 := Lib.hid (B2.out.trans (hb.mono B2.out.size)); clear hb
  go_wp2_with fail
  go_ret
  exact ⟨rfl, B3.out⟩

set_option maxRecDepth 100000 in
theorem implFaceN (ns ls : List Nd) (vn vl : Value) (n : Int) (w : World) (hn : Prs w vn ns) (hl : Prs w vl ls) :
    Calls Tryz.prog 33 #[.agg #[vn, vl], .int .i64 n] w (IntIs (fwnI (readL ns ls) n) w) := by
  have HS := Lib.hid (fun v1 v2 v3 v4 B w h1 h2 h3 h4 h12 => implNumG v1 v2 v3 v4 (wF ns ls) (gA ns ls) (gN ns ls) (gL ns ls) B w h1 h2 h3 h4 (g_ok ns ls) (g_len ns ls).2 h12)
  rw [g_outer] at HS
  have HS := Lib.hid (fun v1 v2 v3 v4 B w h1 h2 h3 h4 => HS.out v1 v2 v3 v4 B w h1 h2 h3 h4 (inn_twelve ns ls))
  rw [show fltN (innP (outW ns ls)) (wF ns ls).length = innW ns ls from rfl, read_congr] at HS
  unfold NumsNew at HS
  have HKY := Lib.hid (fun vf vk B w h1 h2 => implFaceWithN (readL ns ls) B vf vk n w h1 h2 (readL_twelve ns ls))
  unfold IntIs at HKY
  have HN := Lib.hid hn
  have HL := Lib.hid hl
  have HGL := Lib.hid (fun w h1 h2 => implGlass ns ls vn vl w h1 h2)
  unfold GlassNew at HGL
  have H0 := Lib.hid (held_pair w vn vl 31)
  obtain ⟨A, c, rfl⟩ := prs_form2 hn
  obtain ⟨A2, c2, rfl⟩ := prs_form2 hl
  clear hn hl
  generalize fwnI (readL ns ls) n = res at *
  generalize readL ns ls = xs at *
  generalize gN ns ls = ns' at *
  generalize gL ns ls = ls' at *
  generalize gA ns ls = ds at *
  generalize wF ns ls = rs at *
  generalize wholeB ns ls = ok at *
  go_enter Tryz.func33, Tryz.ntmps33
  go_wp2_with fail
  refine (HGL.out _ (HN.out.step H0.out.below) (HL.out.step H0.out.below)).mono ?_
  rintro e w1 ⟨v1, v2, v3, v4, rfl, g1, g2, g3, g4, hb⟩
  have H1 := Lib.hid (H0.out.step hb)
  have G0 := Lib.hid (heldG w1 v1 v2 v3 v4 66)
  have B1 := Lib.hid (H1.out.below.trans (G0.out.below.mono H1.out.below.size))
  have G1 := Lib.hid (g1.step G0.out.below)
  have G2 := Lib.hid (g2.step G0.out.below)
  have G3 := Lib.hid (g3.step G0.out.below)
  have G4 := Lib.hid (g4.step G0.out.below)
  obtain ⟨A5, c5, rfl⟩ := prs_form2 g1
  obtain ⟨A6, c6, rfl⟩ := prs_form2 g2
  obtain ⟨A7, c7, rfl⟩ := faces_form g3
  obtain ⟨A8, c8, rfl⟩ := ints_form g4
  clear hb g1 g2 g3 g4
  obtain ⟨x0, x1, _⟩ := H1.out.1
  obtain ⟨y0, y1, y2, y3, _⟩ := G0.out.1
  go_wp2_with fail
  refine (HS.out _ _ _ _ _ _ G1.out G2.out G3.out G4.out).mono ?_
  rintro e w2 ⟨vf, vk, rfl, hf, hk, hb⟩
  have B2 := Lib.hid (B1.out.trans (hb.mono B1.out.size))
  have HF := Lib.hid hf
  have HK := Lib.hid hk
  obtain ⟨a9, c9, rfl⟩ := ints_form hf
  obtain ⟨a8, c8, rfl⟩ := ints_form hk
  clear hb hf hk
  go_wp2_with fail
  refine (HKY.out _ _ _ _ HF.out HK.out).mono ?_
  rintro e w3 ⟨rfl, hb⟩
  have B3 := Lib.hid (B2.out.trans (hb.mono B2.out.size)); clear hb
  go_wp2_with fail
  go_ret
  exact ⟨rfl, B3.out⟩

set_option maxRecDepth 100000 in
theorem specNumberOf (ns ls : List Nd) (vn vl : Value) (f : Int) (w : World) (hn : Prs w vn ns) (hl : Prs w vl ls) :
    Calls Tryz.prog 30 #[.agg #[vn, vl], .int .i64 f] w (IntIs (plc (readL ns ls) f + 1) w) := by
  have HN := Lib.hid hn
  have HL := Lib.hid hl
  have HRD := Lib.hid (fun w h1 h2 => specRead ns ls vn vl w h1 h2)
  unfold IntsNew at HRD
  have h12 := readL_twelve ns ls
  have H0 := Lib.hid (held_pair w vn vl 31)
  obtain ⟨A, c, rfl⟩ := prs_form2 hn
  obtain ⟨A2, c2, rfl⟩ := prs_form2 hl
  clear hn hl
  have HHIT := Lib.hid (fun m hm h hb => plc_hit (xs := readL ns ls) (x := f) (m := m) hm h hb)
  have HMISS := Lib.hid (fun h => plc_miss (xs := readL ns ls) (x := f) h)
  generalize plc (readL ns ls) f = r at *
  generalize readL ns ls = xs at *
  go_enter Tryz.func30, Tryz.ntmps30
  obtain ⟨x0, x1, _⟩ := H0.out.1
  go_wp2_with fail
  refine (HRD.out _ (HN.out.step H0.out.below) (HL.out.step H0.out.below)).mono ?_
  rintro e w1 ⟨v, rfl, hv, hb⟩
  have HB1 := Lib.hid (H0.out.below.trans (hb.mono H0.out.below.size))
  have H2 := Lib.hid (Held.none_ w1)
  have HV := Lib.hid hv.seq
  obtain ⟨av, cv, rfl⟩ := ints_form hv
  clear hb hv x0 x1
  go_wp2_with fail
  go_loopw [6] (fun i wr => ∃ m : Nat, m ≤ xs.length ∧ i = .int .i64 m ∧ (∀ j, j < m → atZ xs j ≠ f) ∧ Held w1 wr []) (fun i _ => xs.length - (intOf i).toNat)
  case atStart => exact ⟨0, Nat.zero_le _, rfl, fun j hj => by omega, H2.out⟩
  case round =>
    clear H2
    obtain ⟨m, hm, rfl, ha, hh⟩ := hrel
    have HA := Lib.hid ha; clear ha
    have H1 := Lib.hid hh; clear hh
    by_cases hlt : m < xs.length
    · obtain ⟨A6', c6', e6, -, -, hcs⟩ := (HV.out.step H1.out.below).form
      simp only [Value.slice.injEq] at e6
      obtain ⟨rfl, -, -⟩ := e6
      obtain ⟨bb, oo, rfl, -, k0⟩ := hcs m hlt
      clear hcs
      have q1 : (0 : Int) ≤ m := by omega
      have q2 : (m : Int) < (xs.length : Int) := by omega
      have HHM := Lib.hid (fun h => HHIT.out m hlt h HA.out)
      have HAM := Lib.hid (fun (h : atZ xs m ≠ f) => (fun j (hj : j < m + 1) => (if e : j = m then e ▸ h else HA.out j (by omega)) : ∀ j, j < m + 1 → atZ xs j ≠ f))
      generalize atZ xs m = z at *
      by_cases hz : z = f
      · have HR := Lib.hid (HHM.out hz)
        have hzb : (z == f) = true := by simp [hz]
        have ew : IntKind.i64.wrap ((m : Int) + 1) = (m : Int) + 1 := IntWalk.i64_in _ (by omega)
        clear hz
        go_wp2_with fail
        go_ret
        exact ⟨ret_int (by rw [HR.out]), HB1.out.trans (H1.out.below.mono HB1.out.size)⟩
      · have HR := Lib.hid (HAM.out hz)
        have hzb : (z == f) = false := by rw [beq_eq_false_iff_ne]; exact hz
        have hzd : decide (z = f) = false := by simpa using hz
        clear hz
        go_wp2_with fail
        exact ⟨⟨m + 1, by omega, by go_num, HR.out, H1.out⟩, by simp [intOf]; omega⟩
    · obtain rfl : m = xs.length := by omega
      have HR := Lib.hid (HMISS.out HA.out)
      go_wp2_with fail
      go_ret
      exact ⟨ret_int (by rw [HR.out]; rfl), HB1.out.trans (H1.out.below.mono HB1.out.size)⟩

set_option maxRecDepth 100000 in
theorem specFaceN (ns ls : List Nd) (vn vl : Value) (n : Int) (w : World) (hn : Prs w vn ns) (hl : Prs w vl ls) :
    Calls Tryz.prog 32 #[.agg #[vn, vl], .int .i64 n] w (IntIs (fwnI (readL ns ls) n) w) := by
  have HN := Lib.hid hn
  have HL := Lib.hid hl
  have HRD := Lib.hid (fun w h1 h2 => specRead ns ls vn vl w h1 h2)
  unfold IntsNew at HRD
  have h12 := readL_twelve ns ls
  have H0 := Lib.hid (held_pair w vn vl 31)
  obtain ⟨A, c, rfl⟩ := prs_form2 hn
  obtain ⟨A2, c2, rfl⟩ := prs_form2 hl
  clear hn hl
  have HIN := Lib.hid (fun w => specIn n 1 ((readL ns ls).length : Int) w)
  by_cases h : 1 ≤ n ∧ n ≤ ((readL ns ls).length : Int)
  · have HR := Lib.hid (show fwnI (readL ns ls) n = atZ (readL ns ls) (n - 1).toNat from if_pos h)
    rw [show inB n 1 ((readL ns ls).length : Int) = true from (inB_iff _ _ _).2 h] at HIN
    obtain ⟨m, hm1, hm2⟩ : ∃ m : Nat, n - 1 = (m : Int) ∧ m < (readL ns ls).length := ⟨(n - 1).toNat, by omega, by omega⟩
    have ew : IntKind.i64.wrap (n - 1) = (m : Int) := by rw [IntWalk.i64_in _ (by omega)]; exact hm1
    rw [hm1, Int.toNat_natCast] at HR
    clear h hm1
    generalize fwnI (readL ns ls) n = r at *
    generalize readL ns ls = xs at *
    go_enter Tryz.func32, Tryz.ntmps32
    obtain ⟨x0, x1, _⟩ := H0.out.1
    go_wp2_with fail
    refine (HRD.out _ (HN.out.step H0.out.below) (HL.out.step H0.out.below)).mono ?_
    rintro e w1 ⟨v, rfl, hv, hb⟩
    have HB1 := Lib.hid (H0.out.below.trans (hb.mono H0.out.below.size))
    have H2 := Lib.hid (Held.none_ w1)
    have HV := Lib.hid hv.seq
    obtain ⟨av, cv, rfl⟩ := ints_form hv
    clear hb hv x0 x1
    go_wp2_with fail
    refine (HIN.out _).mono ?_
    rintro e w9 ⟨rfl, rfl⟩
    obtain ⟨A6', c6', e6, -, -, hcs⟩ := HV.out.form
    simp only [Value.slice.injEq] at e6
    obtain ⟨rfl, -, -⟩ := e6
    obtain ⟨bb, oo, rfl, -, k0⟩ := hcs m hm2
    clear hcs
    have q1 : (0 : Int) ≤ m := by omega
    have q2 : (m : Int) < (xs.length : Int) := by omega
    generalize atZ xs m = z at *
    go_wp2_with fail
    go_ret
    exact ⟨ret_int HR.out.symm, HB1.out⟩
  · have HR := Lib.hid (show fwnI (readL ns ls) n = -1 from if_neg h)
    rw [show inB n 1 ((readL ns ls).length : Int) = false from by
      rw [Bool.eq_false_iff]; intro h2; exact h ((inB_iff _ _ _).1 h2)] at HIN
    clear h
    generalize fwnI (readL ns ls) n = r at *
    generalize readL ns ls = xs at *
    go_enter Tryz.func32, Tryz.ntmps32
    obtain ⟨x0, x1, _⟩ := H0.out.1
    go_wp2_with fail
    refine (HRD.out _ (HN.out.step H0.out.below) (HL.out.step H0.out.below)).mono ?_
    rintro e w1 ⟨v, rfl, hv, hb⟩
    have HB1 := Lib.hid (H0.out.below.trans (hb.mono H0.out.below.size))
    have H2 := Lib.hid (Held.none_ w1)
    have HV := Lib.hid hv.seq
    obtain ⟨av, cv, rfl⟩ := ints_form hv
    clear hb hv x0 x1
    go_wp2_with fail
    refine (HIN.out _).mono ?_
    rintro e w9 ⟨rfl, rfl⟩
    go_wp2_with fail
    go_ret
    exact ⟨ret_int HR.out.symm, HB1.out⟩
end Go.Proofs.YtmboilogcnmlnaaGreat
