/-
  A string's hexadecimal text is decoded to the string, plainly.
-/
import Derived.Test.YtejjeihikmipdaaDoorDecP
namespace Go.Proofs.YtejjeihikmipdaaDoor
open Go.RowKit
set_option linter.unusedVariables false
set_option linter.unusedSimpArgs false

theorem at_cons (c : UInt8) (l : List UInt8) (j : Nat) : at' (c :: l) (j + 1) = at' l j := by simp [at']
theorem at_hex : ∀ (l : List UInt8) (j : Nat), j < l.length → at' (hexL l) (2 * j) = digitB ((at' l j).toNat / 16) ∧ at' (hexL l) (2 * j + 1) = digitB ((at' l j).toNat % 16)
  | [], j, h => by simp at h
  | c :: l, j, h => by
    have e : hexL (c :: l) = digitB (c.toNat / 16) :: digitB (c.toNat % 16) :: hexL l := by simp [hexL]
    cases j with
    | zero => rw [e]; exact ⟨rfl, rfl⟩
    | succ j =>
      have ih := at_hex l j (by simpa using h)
      have e1 : 2 * (j + 1) = 2 * j + 1 + 1 := by omega
      rw [e, e1, at_cons, at_cons, at_cons, at_cons, at_cons]
      exact ih
theorem hexVal_digit (n : Nat) (h : n < 16) : hexVal (digitB n) = n := by
  have key : ∀ n, n < 16 → hexVal (digitB n) = n := by decide
  exact key n h
theorem dec_hexL (l : List UInt8) : decL (hexL l) l.length = l := by
  apply List.ext_getElem
  · simp [decL]
  · intro j h1 h2
    have ha := at_hex l j h2
    have hc := (at' l j).toNat_lt
    have e : at' l j = l[j] := by simp [at', List.getD, h2]
    simp only [decL, List.getElem_map, List.getElem_range]
    rw [ha.1, ha.2, hexVal_digit _ (by omega), hexVal_digit _ (by omega), e]
    unfold decB
    have e2 : (16 * ((l[j].toNat / 16 : Nat) : Int) + ((l[j].toNat % 16 : Nat) : Int)).toNat = l[j].toNat := by omega
    rw [e2]
    simp
theorem allHex_hexL (l : List UInt8) : AllHex (hexL l) (2 * l.length) := by
  intro j hj
  have ha := at_hex l (j / 2) (by omega)
  have hc := (at' l (j / 2)).toNat_lt
  by_cases h : j % 2 = 0
  · have e : j = 2 * (j / 2) := by omega
    rw [e, ha.1, hexVal_digit _ (by omega)]; omega
  · have e : j = 2 * (j / 2) + 1 := by omega
    rw [e, ha.2, hexVal_digit _ (by omega)]; omega

/-- The text t of s: its length, that it is decoded, to what. -/
theorem hex_back (s : ByteArray) : (⟨(hexL s.data.toList).toArray⟩ : ByteArray).size = 2 * s.size ∧ AllHex (⟨(hexL s.data.toList).toArray⟩ : ByteArray).data.toList (⟨(hexL s.data.toList).toArray⟩ : ByteArray).size ∧
    (⟨(decL (⟨(hexL s.data.toList).toArray⟩ : ByteArray).data.toList ((⟨(hexL s.data.toList).toArray⟩ : ByteArray).size / 2)).toArray⟩ : ByteArray) = s := by
  have e0 : s.data.toList.length = s.size := by simp
  have e1 : (⟨(hexL s.data.toList).toArray⟩ : ByteArray).size = 2 * s.size := by
    show (hexL s.data.toList).toArray.size = _
    simp [hexL_length]
  have e2 : (⟨(hexL s.data.toList).toArray⟩ : ByteArray).data.toList = hexL s.data.toList := by simp
  refine ⟨e1, ?_, ?_⟩
  · rw [e1, e2, ← e0]; exact allHex_hexL _
  · rw [e1, e2]
    have e3 : 2 * s.size / 2 = s.data.toList.length := by rw [e0]; omega
    rw [e3, dec_hexL]
end Go.Proofs.YtejjeihikmipdaaDoor
