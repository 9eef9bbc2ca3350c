/-
  Shapes, plainly: a list of nodes moved into the corner, from its lowest node on; turned, mirrored.
-/
import Derived.Test.YtmboilogcnmlnaaGreatG1
namespace Go.Proofs.YtmboilogcnmlnaaGreat
open Go.RowKit
set_option linter.unusedVariables false
set_option linter.unusedSimpArgs false

/-- Is a ahead of b: lower, or as low and farther to the left? -/
def befB (a b : Nd) : Bool := decide (a.y < b.y ∨ a.y = b.y ∧ a.x < b.x)

theorem befB_iff (a b : Nd) : befB a b = true ↔ a.y < b.y ∨ a.y = b.y ∧ a.x < b.x := by simp [befB]

def mnX (s : List Nd) : Nat → Int
  | 0 => (atN s 0).x
  | n + 1 => min (mnX s n) (atN s n).x

def mnY (s : List Nd) : Nat → Int
  | 0 => (atN s 0).y
  | n + 1 => min (mnY s n) (atN s n).y

def lowF (s : List Nd) : Nat → Nat
  | 0 => 0
  | n + 1 => if befB (atN s n) (atN s (lowF s n)) = true then n else lowF s n

theorem mnX_succ (s : List Nd) (n : Nat) : mnX s (n + 1) = min (mnX s n) (atN s n).x := rfl

theorem mnY_succ (s : List Nd) (n : Nat) : mnY s (n + 1) = min (mnY s n) (atN s n).y := rfl

theorem lowF_succ (s : List Nd) (n : Nat) : lowF s (n + 1) = if befB (atN s n) (atN s (lowF s n)) = true then n else lowF s n := rfl

theorem lowF_lt {s : List Nd} (h0 : 0 < s.length) : ∀ n, n ≤ s.length → lowF s n < s.length
  | 0, _ => h0
  | n + 1, hn => by
    have := lowF_lt h0 n (by omega)
    rw [lowF_succ]
    split <;> omega

/-- Small enough for sums and differences. -/
def SmlN (s : List Nd) : Prop := ∀ k, k < s.length → (-20 ≤ (atN s k).x ∧ (atN s k).x ≤ 20) ∧ (-20 ≤ (atN s k).y ∧ (atN s k).y ≤ 20)

theorem mn_bd {s : List Nd} (h : SmlN s) (h0 : 0 < s.length) : ∀ n, n ≤ s.length → (-20 ≤ mnX s n ∧ mnX s n ≤ 20) ∧ (-20 ≤ mnY s n ∧ mnY s n ≤ 20)
  | 0, _ => h 0 h0
  | n + 1, hn => by
    have ih := mn_bd h h0 n (by omega)
    have := h n (by omega)
    rw [mnX_succ, mnY_succ]
    omega

/-- The first n nodes of the shape. -/
def fitN (s : List Nd) : Nat → List Nd
  | 0 => []
  | n + 1 => fitN s n ++ [⟨(atN s ((lowF s s.length + n) % s.length)).x - mnX s s.length, (atN s ((lowF s s.length + n) % s.length)).y - mnY s s.length⟩]

theorem fitN_succ (s : List Nd) (n : Nat) : fitN s (n + 1) = fitN s n ++ [⟨(atN s ((lowF s s.length + n) % s.length)).x - mnX s s.length, (atN s ((lowF s s.length + n) % s.length)).y - mnY s s.length⟩] := rfl

theorem fitN_len (s : List Nd) : ∀ n, (fitN s n).length = n
  | 0 => rfl
  | n + 1 => by rw [fitN_succ, List.length_append, fitN_len s n]; rfl

def fitL (s : List Nd) : List Nd := fitN s s.length

theorem fitL_len (s : List Nd) : (fitL s).length = s.length := fitN_len s _

def tlN (n : Nd) : Nd := ⟨-n.y, n.x⟩

def mrN (n : Nd) : Nd := ⟨-n.x, n.y⟩

def shpB (s : List Nd) : Bool := decide (0 < s.length) && s.all okB

theorem shpB_iff (s : List Nd) : shpB s = true ↔ 0 < s.length ∧ ∀ k, k < s.length → okB (atN s k) = true := by
  unfold shpB
  rw [Bool.and_eq_true, decide_eq_true_iff, List.all_eq_true]
  refine and_congr Iff.rfl ⟨fun h k hk => h _ (atN_mem hk), fun h n hn => ?_⟩
  obtain ⟨k, hk, rfl⟩ := List.getElem_of_mem hn
  rw [atN_get hk]
  exact h k hk

def turnL (s : List Nd) : List Nd := if shpB s = true then fitL (s.map tlN) else []

def mirrL (s : List Nd) : List Nd := if shpB s = true then fitL (s.map mrN).reverse else []

theorem atN_map (f : Nd → Nd) {s : List Nd} {k : Nat} (h : k < s.length) : atN (s.map f) k = f (atN s k) := by
  unfold atN; simp [List.getD, h]

theorem atN_rev {s : List Nd} {k : Nat} (h : k < s.length) : atN s.reverse k = atN s (s.length - 1 - k) := by
  rw [← atN_get (by simpa using h), List.getElem_reverse, atN_get]

theorem sml_tl {s : List Nd} (h : ∀ k, k < s.length → okB (atN s k) = true) : SmlN (s.map tlN) := by
  intro k hk
  rw [List.length_map] at hk
  have := (okB_iff _).1 (h k hk)
  rw [atN_map tlN hk]
  unfold tlN
  simp only
  omega

theorem sml_mr {s : List Nd} (h : ∀ k, k < s.length → okB (atN s k) = true) : SmlN (s.map mrN).reverse := by
  intro k hk
  rw [List.length_reverse, List.length_map] at hk
  have := (okB_iff _).1 (h (s.length - 1 - k) (by omega))
  rw [atN_rev (by rw [List.length_map]; exact hk), List.length_map, atN_map mrN (by omega)]
  unfold mrN
  simp only
  omega

theorem turnL_len (s : List Nd) : (turnL s).length ≤ s.length := by
  unfold turnL
  split
  · rw [fitL_len, List.length_map]; exact Nat.le_refl _
  · exact Nat.zero_le _

theorem mirrL_len (s : List Nd) : (mirrL s).length ≤ s.length := by
  unfold mirrL
  split
  · rw [fitL_len, List.length_reverse, List.length_map]; exact Nat.le_refl _
  · exact Nat.zero_le _
end Go.Proofs.YtmboilogcnmlnaaGreat
