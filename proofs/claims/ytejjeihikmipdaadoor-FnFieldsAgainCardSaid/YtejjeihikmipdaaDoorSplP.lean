/-
  The fields of a line, plainly.
-/
import Derived.Test.YtejjeihikmipdaaDoorStrsP
import Derived.Test.YtejjeihikmipdaaDoorDecP
namespace Go.Proofs.YtejjeihikmipdaaDoor
open Go.RowKit
set_option linter.unusedVariables false
set_option linter.unusedSimpArgs false

/-- Where the field begins that reaches to i. -/
def stB (s : ByteArray) : Nat → Nat
  | 0 => 0
  | i + 1 => if at' s.data.toList i = 32 then i + 1 else stB s i
def fieldAt (s : ByteArray) (a b : Nat) : List ByteArray := if a < b then [s.extract a b] else []
/-- The fields that end before i. -/
def stF (s : ByteArray) : Nat → List ByteArray
  | 0 => []
  | i + 1 => if at' s.data.toList i = 32 then stF s i ++ fieldAt s (stB s i) i else stF s i
def fieldsOf (s : ByteArray) : List ByteArray := stF s s.size ++ fieldAt s (stB s s.size) s.size
def Printable (s : ByteArray) (n : Nat) : Prop := ∀ j, j < n → 32 ≤ (at' s.data.toList j).toNat ∧ (at' s.data.toList j).toNat ≤ 126
def LineOk (s : ByteArray) : Prop := s.size ≤ 600 ∧ Printable s s.size ∧ (fieldsOf s).length ≤ 24

theorem stB_le (s : ByteArray) (i : Nat) : stB s i ≤ i := by
  induction i with
  | zero => exact Nat.le_refl _
  | succ i ih => unfold stB; split; exact Nat.le_refl _; omega
theorem fieldAt_len (s : ByteArray) (a b : Nat) : (fieldAt s a b).length ≤ 1 := by unfold fieldAt; split <;> simp
theorem stF_len (s : ByteArray) (i : Nat) : (stF s i).length ≤ i := by
  induction i with
  | zero => exact Nat.le_refl _
  | succ i ih =>
    unfold stF
    split
    · have := fieldAt_len s (stB s i) i
      rw [List.length_append]; omega
    · omega
theorem stB_space (s : ByteArray) (i : Nat) (h : at' s.data.toList i = 32) : stB s (i + 1) = i + 1 := by rw [stB, if_pos h]
theorem stB_other (s : ByteArray) (i : Nat) (h : at' s.data.toList i ≠ 32) : stB s (i + 1) = stB s i := by rw [stB, if_neg h]
theorem stF_space (s : ByteArray) (i : Nat) (h : at' s.data.toList i = 32) : stF s (i + 1) = stF s i ++ fieldAt s (stB s i) i := by rw [stF, if_pos h]
theorem stF_other (s : ByteArray) (i : Nat) (h : at' s.data.toList i ≠ 32) : stF s (i + 1) = stF s i := by rw [stF, if_neg h]
theorem Printable.succ {s : ByteArray} {n : Nat} (h : Printable s n) (h1 : 32 ≤ (at' s.data.toList n).toNat) (h2 : (at' s.data.toList n).toNat ≤ 126) : Printable s (n + 1) := fun j hj => by
  by_cases e : j = n
  · rw [e]; exact ⟨h1, h2⟩
  · exact h j (by omega)
theorem u8_eq_32 (c : UInt8) : c = 32 ↔ c.toNat = 32 := by
  constructor
  · rintro rfl; rfl
  · intro h; exact UInt8.toNat_inj.1 h

/-- (the fields, true) of a line that is in order; else (no fields, false). -/
def SplitPost (e : Nat) (s : ByteArray) (B : Nat) (w : World) (en : Ending) (w' : World) : Prop :=
  ∃ (v : Value) (fs : List ByteArray) (ok : Bool), en = .returned (.tuple #[v, .bool ok]) ∧ Strs e B w' v fs ∧ Below B w w' ∧ ((ok = true ∧ LineOk s ∧ fs = fieldsOf s) ∨ (ok = false ∧ ¬ LineOk s ∧ fs = []))
theorem SplitPost.good {e : Nat} {s : ByteArray} {B : Nat} {w w' : World} {v : Value} {fs : List ByteArray} {en : Ending} (he : en = .returned (.tuple #[v, .bool true])) (hv : Strs e B w' v fs) (hb : Below B w w') (hl : LineOk s) (hf : fs = fieldsOf s) : SplitPost e s B w en w' :=
  ⟨v, fs, true, he, hv, hb, .inl ⟨rfl, hl, hf⟩⟩
theorem SplitPost.bad {e : Nat} {s : ByteArray} {B : Nat} {w w' : World} {v : Value} {en : Ending} (he : en = .returned (.tuple #[v, .bool false])) (hv : Strs e B w' v []) (hb : Below B w w') (hl : ¬ LineOk s) : SplitPost e s B w en w' :=
  ⟨v, [], false, he, hv, hb, .inr ⟨rfl, hl, rfl⟩⟩
end Go.Proofs.YtejjeihikmipdaaDoor
