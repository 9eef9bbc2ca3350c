/-
  The boxes of the faces, and the order in which faces are read, plainly.
-/
import Derived.Test.YtmboilogcnmlnaaGreatFcnt
import Derived.Test.YtmboilogcnmlnaaGreatTurns
import Derived.Test.YtmboilogcnmlnaaGreatG6
import Derived.Test.YtmboilogcnmlnaaGreatCmpZ
namespace Go.Proofs.YtmboilogcnmlnaaGreat
open Go.RowKit
set_option linter.unusedVariables false
set_option linter.unusedSimpArgs false

/-- A box, grown by a node. -/
def bxF (n : Nd) (b : Nd × Nd) : Nd × Nd := (⟨min b.1.x n.x, min b.1.y n.y⟩, ⟨max b.2.x n.x, max b.2.y n.y⟩)

def bxL (ns : List Nd) (xs : List Int) : Nat → Nd × Nd
  | 0 => (⟨20, 20⟩, ⟨0, 0⟩)
  | n + 1 => bxF (atN ns (atZ xs n).toNat) (bxL ns xs n)

theorem bxL_succ (ns : List Nd) (xs : List Int) (n : Nat) : bxL ns xs (n + 1) = bxF (atN ns (atZ xs n).toNat) (bxL ns xs n) := rfl

def bxS (ns : List Nd) (xs : List Int) : Nat → Nd × Nd
  | 0 => (atN ns (atZ xs 0).toNat, atN ns (atZ xs 0).toNat)
  | n + 1 => bxF (atN ns (atZ xs n).toNat) (bxS ns xs n)

theorem bxS_succ (ns : List Nd) (xs : List Int) (n : Nat) : bxS ns xs (n + 1) = bxF (atN ns (atZ xs n).toNat) (bxS ns xs n) := rfl

theorem bx_same {ns : List Nd} {xs : List Int} (hx : NodesOf ns xs) (h0 : 0 < xs.length) : ∀ n, n ≤ xs.length →
    bxS ns xs n = (⟨min (bxL ns xs n).1.x (atN ns (atZ xs 0).toNat).x, min (bxL ns xs n).1.y (atN ns (atZ xs 0).toNat).y⟩, ⟨max (bxL ns xs n).2.x (atN ns (atZ xs 0).toNat).x, max (bxL ns xs n).2.y (atN ns (atZ xs 0).toNat).y⟩)
  | 0, _ => by
    obtain ⟨a, ha, _, ho⟩ := hx 0 h0
    rw [← Int.toNat_natCast a, ← ha] at ho
    obtain ⟨h1, h2, h3, h4⟩ := area_okb ho
    unfold bxS bxL
    generalize atN ns (atZ xs 0).toNat = p at *
    obtain ⟨px, py⟩ := p
    simp only at *
    rw [show min 20 px = px by omega, show min 20 py = py by omega, show max 0 px = px by omega, show max 0 py = py by omega]
  | n + 1, h => by
    rw [bxS_succ, bxL_succ, bx_same hx h0 n (by omega)]
    generalize bxL ns xs n = b
    generalize atN ns (atZ xs 0).toNat = p
    generalize atN ns (atZ xs n).toNat = q
    unfold bxF
    simp only
    congr 2 <;> omega

theorem bx_below (ns : List Nd) (xs : List Int) {j : Nat} : ∀ n, j < n → (bxL ns xs n).1.x ≤ (atN ns (atZ xs j).toNat).x ∧ (bxL ns xs n).1.y ≤ (atN ns (atZ xs j).toNat).y ∧ (atN ns (atZ xs j).toNat).x ≤ (bxL ns xs n).2.x ∧ (atN ns (atZ xs j).toNat).y ≤ (bxL ns xs n).2.y
  | n + 1, h => by
    rw [bxL_succ]
    by_cases e : j = n
    · subst e
      unfold bxF
      simp only
      omega
    · have := bx_below ns xs n (j := j) (by omega)
      unfold bxF
      simp only
      omega

theorem bx_eq {ns : List Nd} {xs : List Int} (hx : NodesOf ns xs) (h0 : 0 < xs.length) : bxS ns xs xs.length = bxL ns xs xs.length := by
  rw [bx_same hx h0 _ (Nat.le_refl _)]
  obtain ⟨h1, h2, h3, h4⟩ := bx_below ns xs xs.length h0
  generalize bxL ns xs xs.length = b at *
  generalize atN ns (atZ xs 0).toNat = p at *
  obtain ⟨⟨a, b⟩, ⟨c, d⟩⟩ := b
  simp only at *
  rw [show min a p.x = a by omega, show min b p.y = b by omega, show max c p.x = c by omega, show max d p.y = d by omega]

noncomputable def boxW (ns ls : List Nd) (f : Int) : Nd × Nd := if idxB (wF ns ls).length f = true then bxL ns (paneW ns ls f) (paneW ns ls f).length else (⟨0, 0⟩, ⟨0, 0⟩)

theorem pane_nodesB (ns ls : List Nd) (f : Int) : NodesOf ns (paneW ns ls f) := by
  unfold paneW
  by_cases h : idxB (wF ns ls).length f = true
  · rw [if_pos h]
    obtain ⟨k, rfl, hk⟩ := idx_nat h
    obtain ⟨hw, hd, _⟩ := (wF_ok ns ls).2 k hk
    exact bord_nodes hw hd
  · rw [if_neg h]
    intro i hi
    simp at hi

theorem boxW_end (ns ls : List Nd) (f : Int) (h : ¬ (paneW ns ls f).length = 0) : boxW ns ls f = bxS ns (paneW ns ls f) (paneW ns ls f).length := by
  have hf : idxB (wF ns ls).length f = true := by
    by_cases hf : idxB (wF ns ls).length f = true
    · exact hf
    · exfalso; apply h; unfold paneW; rw [if_neg hf]; rfl
  unfold boxW
  rw [if_pos hf, bx_eq (pane_nodesB ns ls f) (by omega)]

theorem boxW_nil (ns ls : List Nd) (f : Int) (h : (paneW ns ls f).length = 0) : boxW ns ls f = (⟨0, 0⟩, ⟨0, 0⟩) := by
  unfold boxW
  by_cases hf : idxB (wF ns ls).length f = true
  · exfalso
    unfold paneW at h
    rw [if_pos hf, bord_len] at h
    obtain ⟨k, rfl, hk⟩ := idx_nat hf
    have := (row_len hk).2
    simp only [Int.toNat_natCast] at h
    omega
  · rw [if_neg hf]

/-- Two nodes are returned. -/
def BoxIs (b : Nd × Nd) (w : World) (e : Ending) (w' : World) : Prop := e = .returned (.tuple #[.agg #[.int .i64 b.1.x, .int .i64 b.1.y], .agg #[.int .i64 b.2.x, .int .i64 b.2.y]]) ∧ Below w.heap.size w w'

/-- How the faces f and h stand to each other, by their boxes. -/
def rcmp (bx : Int → Nd × Nd) (f h : Int) : Int := orZ (cmpZ (bx h).2.y (bx f).2.y) (cmpZ (bx f).1.x (bx h).1.x) (cmpZ f h)

def ltR (bx : Int → Nd × Nd) (f h : Int) : Bool := decide (rcmp bx f h < 0)

theorem ltR_iff (bx : Int → Nd × Nd) {k d : Int} (h : d < k) : ltR bx k d = true ↔ (bx d).2.y < (bx k).2.y ∨ (bx d).2.y = (bx k).2.y ∧ (bx k).1.x < (bx d).1.x := by
  unfold ltR rcmp orZ cmpZ
  rw [decide_eq_true_iff]
  split <;> split <;> (try split) <;> (try split) <;> (try split) <;> (try split) <;> omega

theorem g_box {ns ls : List Nd} {k : Nat} (h : k < (wF ns ls).length) : bxL (gN ns ls) (bord (gL ns ls) (atR (wF ns ls) k)) (bord (gL ns ls) (atR (wF ns ls) k)).length = boxW ns ls k := by
  unfold boxW paneW
  rw [if_pos ((idxB_iff _ _).2 (by omega)), if_pos ((idxB_iff _ _).2 (by omega)), g_bord h, Int.toNat_natCast]
  unfold gN
  rw [if_pos (wF_row h).1]

noncomputable def readL (ns ls : List Nd) : List Int := sortL (ltR (boxW ns ls)) (innW ns ls)

theorem readL_len (ns ls : List Nd) : (readL ns ls).length = (innW ns ls).length := sortL_len _ _ _ rfl

theorem readL_twelve (ns ls : List Nd) : (readL ns ls).length ≤ 12 := by
  rw [readL_len]
  exact inn_twelve ns ls
end Go.Proofs.YtmboilogcnmlnaaGreat
