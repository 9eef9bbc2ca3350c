/-
  Several texts in one: a claim has at most 60 files.
-/
import Derived.Test.YtmcbbjobjogkmabGreatWalkJ
import Derived.Test.YtmcbbjobjogkmabGreatDet2
import Derived.Test.YtmcbbjobjogkmabGreatG2
import Derived.Test.YtmcbbjobjogkmabGreatWinI

namespace Go.Proofs.YtmcbbjobjogkmabGreat
open Go.RowKit
set_option linter.unusedVariables false
set_option linter.unusedSimpArgs false

theorem stable_seqA (v : Value) (xs : List Int) : Stable fun W => Seq W v xs := fun _ _ h hb => h.step hb

theorem area_prod {a b : Int} (h1 : 0 ≤ a) (h2 : a ≤ 20) (h3 : 0 ≤ b) (h4 : b ≤ 20) : 0 ≤ a * b ∧ a * b ≤ 400 := by
  have p := Int.mul_nonneg h1 h3
  have q := Int.mul_le_mul h2 h4 h3 (by omega : (0 : Int) ≤ 20)
  omega

theorem area_okb {n : Nd} (h : okB n = true) : 0 ≤ n.x ∧ n.x ≤ 20 ∧ 0 ≤ n.y ∧ n.y ≤ 20 := by
  unfold okB at h
  simp only [Bool.and_eq_true, inB_iff] at h
  exact ⟨h.1.1, h.1.2, h.2.1, h.2.2⟩

/-- Each of the list's darts is one of the window's. -/
def DartsOf (ls : List Nd) (l : List Int) : Prop := ∀ i, i < l.length → ∃ q : Nat, atZ l i = q ∧ q < 2 * ls.length

theorem area_step {ns ls : List Nd} {l : List Int} (hw : winB ns ls = true) (hl : DartsOf ls l) {m : Nat} (hm : m < l.length) : ∃ q a b : Nat, atZ l m = q ∧ q < 2 * ls.length ∧ dF ls q = a ∧ dT ls q = b ∧ a < ns.length ∧ b < ns.length ∧ okB (atN ns a) = true ∧ okB (atN ns b) = true ∧
    areaL ns ls l (m + 1) = areaL ns ls l m + ((atN ns a).x * (atN ns b).y - (atN ns a).y * (atN ns b).x) := by
  obtain ⟨q, hq, hq2⟩ := hl m hm
  obtain ⟨a, b, ha, hb, ha2, hb2, _⟩ := dart_nat hw hq2
  refine ⟨q, a, b, hq, hq2, ha, hb, ha2, hb2, ((((winB_iff ns ls).1 hw).2.1 a ha2).1), ((((winB_iff ns ls).1 hw).2.1 b hb2).1), ?_⟩
  rw [areaL, hq, Int.toNat_natCast, ha, hb]
  rfl

theorem area_bd {ns ls : List Nd} {l : List Int} (hw : winB ns ls = true) (hl : DartsOf ls l) : ∀ m, m ≤ l.length → -(400 * (m : Int)) ≤ areaL ns ls l m ∧ areaL ns ls l m ≤ 400 * m
  | 0, _ => by simp [areaL]
  | m + 1, h => by
    obtain ⟨q, a, b, -, -, -, -, -, -, oa, ob, e⟩ := area_step hw hl (show m < l.length by omega)
    have ih := area_bd hw hl m (by omega)
    obtain ⟨a1, a2, a3, a4⟩ := area_okb oa
    obtain ⟨b1, b2, b3, b4⟩ := area_okb ob
    have p := area_prod a1 a2 b3 b4
    have p2 := area_prod a3 a4 b1 b2
    rw [e]
    omega

theorem areaL_zero (ns ls : List Nd) (l : List Int) (h : l.length = 0) : areaL ns ls l l.length = 0 := by rw [h]; rfl

noncomputable def areaI (ns ls : List Nd) (d : Int) : Int := areaL ns ls (walkI ns ls d) (walkI ns ls d).length
end Go.Proofs.YtmcbbjobjogkmabGreat

namespace Go.Proofs.YtmcbbjobjogkmabGreat
open Go.RowKit
set_option linter.unusedVariables false
set_option linter.unusedSimpArgs false

theorem walk_darts {ns ls : List Nd} {d : Int} (h : (walkI ns ls d).length ≠ 0) : winB ns ls = true ∧ DartsOf ls (walkI ns ls d) :=
  ⟨(walkI_at (show 0 < (walkI ns ls d).length by omega)).1, fun i hi => (walkI_at hi).2⟩

end Go.Proofs.YtmcbbjobjogkmabGreat
