/-
  At most twelve darts begin at a node of a valid window.
-/
import Derived.Test.YtghpbdgghliieacPartP
import Derived.Test.YtghpbdgghliieacAroP
namespace Go.Proofs.Ytghpbdgghliieac
open Go.RowKit
set_option linter.unusedVariables false
set_option linter.unusedSimpArgs false

theorem meet_same (a b : Nd) : meetB a b a b = true := by
  rw [meet_prog]
  simp
theorem leads_differ {ns ls : List Nd} (hw : winB ns ls = true) {i j : Nat} (hij : i < j) (hj : j < ls.length) : atN ls i ≠ atN ls j := fun e => by
  have h := (((winB_iff ns ls).1 hw).2.2 j hj)
  have hc := h.2.1 i hij
  rw [e] at hc
  unfold crossB at hc
  rw [h.1, meet_same] at hc
  simp at hc
theorem ends_differ {ns ls : List Nd} (hw : winB ns ls = true) {d e : Nat} (hde : d < e) (he : e < 2 * ls.length) {k : Int} (h1 : dF ls d = k) (h2 : dF ls e = k) : dT ls d ≠ dT ls e := fun ht => by
  obtain ⟨p, q, ed, hpq, _⟩ := leadOkB_spec (((winB_iff ns ls).1 hw).2.2 (d / 2) (by omega)).1
  obtain ⟨r, s, ee, hrs, _⟩ := leadOkB_spec (((winB_iff ns ls).1 hw).2.2 (e / 2) (by omega)).1
  by_cases hq : d / 2 = e / 2
  · rw [hq] at ed
    rw [ed] at ee
    injection ee with e1 e2
    unfold dF at h1 h2
    rw [if_neg (by omega), hq, ed] at h1
    rw [if_pos (by omega), ed] at h2
    simp only at h1 h2
    omega
  · have hne := leads_differ hw (show d / 2 < e / 2 by omega) (by omega)
    rw [ed, ee] at hne
    apply hne
    unfold dF dT at *
    rw [ed] at h1 ht
    rw [ee] at h2 ht
    simp only at h1 h2 ht
    have hx : (p : Int) = r ∧ (q : Int) = s := by
      by_cases hd : d % 2 = 1
      · rw [if_pos hd] at h1 ht
        by_cases he2 : e % 2 = 1
        · rw [if_pos he2] at h2 ht; omega
        · rw [if_neg he2] at h2 ht; omega
      · rw [if_neg hd] at h1 ht
        by_cases he2 : e % 2 = 1
        · rw [if_pos he2] at h2 ht; omega
        · rw [if_neg he2] at h2 ht; omega
    rw [hx.1, hx.2]
/-- The darts before n that begin at node k. -/
def fromL (ls : List Nd) (k n : Nat) : List Int := fltN (fun d => decide (dF ls d = k)) n
theorem from_mem {ls : List Nd} {k n : Nat} {x : Int} : x ∈ fromL ls k n ↔ ∃ d : Nat, x = d ∧ d < n ∧ dF ls d = k := by
  unfold fromL
  rw [fltN_mem]
  simp
theorem from_le {ns ls : List Nd} (hw : winB ns ls = true) (k : Nat) : (fromL ls k (2 * ls.length)).length ≤ 12 := by
  have h12 := ((winB_iff ns ls).1 hw).1.1.2
  have h := nodup_le ns.length ((fromL ls k (2 * ls.length)).map fun d => dT ls d.toNat) ?_ ?_
  · rw [List.length_map] at h; omega
  · unfold List.Nodup
    rw [List.pairwise_map]
    refine (fltN_asc _ _).imp_of_mem fun {a b} ha hb hab => ?_
    obtain ⟨d, rfl, hd, h1⟩ := from_mem.1 ha
    obtain ⟨e, rfl, he, h2⟩ := from_mem.1 hb
    simp only [Int.toNat_natCast]
    exact ends_differ hw (by omega) he h1 h2
  · intro x hx
    obtain ⟨y, hy, rfl⟩ := List.mem_map.1 hx
    obtain ⟨d, rfl, hd, h1⟩ := from_mem.1 hy
    obtain ⟨a, b, _, hb, _, hbn, _⟩ := dart_nat hw hd
    exact ⟨b, by simpa using hb, hbn⟩
end Go.Proofs.Ytghpbdgghliieac
