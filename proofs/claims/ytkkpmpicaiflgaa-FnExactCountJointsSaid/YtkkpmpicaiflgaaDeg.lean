/-
  DegreeOf, of the model and of the program.
-/
import Derived.Test.YtkkpmpicaiflgaaLAt
namespace Go.Proofs.Ytkkpmpicaiflgaa
open Go.RowKit
set_option linter.unusedVariables false
set_option linter.unusedSimpArgs false

def degI (ns ls : List Nd) (k : Int) : Int := if hasB ns ls k = true then ((atsI ns ls k).length : Int) else -1

set_option maxRecDepth 100000 in
theorem implDeg (ns ls : List Nd) (vn vl : Value) (k : Int) (w : World) (hn : Prs w vn ns) (hl : Prs w vl ls) :
    Calls Try.prog 65 #[.agg #[vn, vl], .int .i64 k] w (IntIs (degI ns ls k) w) := by
  have HN := Lib.hid hn
  have HL := Lib.hid hl
  obtain ⟨A, c, rfl⟩ := prs_form2 hn
  obtain ⟨A2, c2, rfl⟩ := prs_form2 hl
  clear hn hl
  have H0 := Lib.hid (held_pair w (.slice A ns.length c) (.slice A2 ls.length c2) 42)
  have HW := Lib.hid (fun w h1 h2 => implHasNode ns ls (.slice A ns.length c) (.slice A2 ls.length c2) k w h1 h2)
  have HA := Lib.hid (fun w h1 h2 => implLeadsAt ns ls (.slice A ns.length c) (.slice A2 ls.length c2) k w h1 h2)
  unfold IntsNew at HA
  have HR := Lib.hid (show degI ns ls k = if hasB ns ls k = true then ((atsI ns ls k).length : Int) else -1 from rfl)
  generalize degI ns ls k = r at *
  generalize atsI ns ls k = xs at *
  generalize hasB ns ls k = d at *
  cases d
  · go_enter Try.func65, Try.ntmps65
    go_wp2_with fail
    refine (HW.out _ (HN.out.step H0.out.below) (HL.out.step H0.out.below)).mono ?_
    rintro e wH1 ⟨rfl, hb⟩
    have H1 := Lib.hid ((H0.out).step hb); clear hb
    try clear x0 x1
    obtain ⟨x0, x1, _⟩ := H1.out.1
    go_wp2_with fail
    go_ret
    exact ⟨ret_int (by rw [HR.out]; simp), H1.out.below⟩
  · go_enter Try.func65, Try.ntmps65
    go_wp2_with fail
    refine (HW.out _ (HN.out.step H0.out.below) (HL.out.step H0.out.below)).mono ?_
    rintro e wH1 ⟨rfl, hb⟩
    have H1 := Lib.hid ((H0.out).step hb); clear hb
    try clear x0 x1
    obtain ⟨x0, x1, _⟩ := H1.out.1
    go_wp2_with fail
    refine (HA.out _ (HN.out.step H1.out.below) (HL.out.step H1.out.below)).mono ?_
    rintro e w2 ⟨v, rfl, hi, hb⟩
    have H2 := Lib.hid (H1.out.step hb); clear hb
    obtain ⟨a, cp, rfl, hlm, _⟩ := hi.form
    clear hi
    unfold maxLen at hlm
    go_wp2_with fail
    go_ret
    exact ⟨ret_int (by rw [HR.out]; simp), H2.out.below⟩

end Go.Proofs.Ytkkpmpicaiflgaa
