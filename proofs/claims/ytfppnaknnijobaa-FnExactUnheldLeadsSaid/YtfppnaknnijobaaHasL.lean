/-
  Whether a window is sound and holds lead k; of the program.
-/
import Derived.Test.YtfppnaknnijobaaWinJ
namespace Go.Proofs.Ytfppnaknnijobaa
open Go.RowKit
set_option linter.unusedVariables false
set_option linter.unusedSimpArgs false

def hasLB (ns ls : List Nd) (k : Int) : Bool := winB ns ls && idxB ls.length k

set_option maxRecDepth 100000 in
theorem implHasLead (ns ls : List Nd) (vn vl : Value) (k : Int) (w : World) (hn : Prs w vn ns) (hl : Prs w vl ls) :
    Calls Try.prog 56 #[.agg #[vn, vl], .int .i64 k] w (BoolIs (hasLB ns ls k) w) := by
  have HN := Lib.hid hn
  have HL := Lib.hid hl
  have hlen := hl.len
  obtain ⟨A, c, rfl⟩ := prs_form2 hn
  obtain ⟨A2, c2, rfl⟩ := prs_form2 hl
  clear hn hl
  have H0 := Lib.hid (held_pair w (.slice A ns.length c) (.slice A2 ls.length c2) 32)
  have HW := Lib.hid (fun w h1 h2 => implWin ns ls (.slice A ns.length c) (.slice A2 ls.length c2) w h1 h2)
  have HR := Lib.hid (show hasLB ns ls k = (winB ns ls && idxB ls.length k) from rfl)
  have HX := Lib.hid (idxB_iff ls.length k)
  generalize hasLB ns ls k = r at *
  generalize winB ns ls = d at *
  generalize idxB ls.length k = b at *
  cases d
  · go_enter Try.func56, Try.ntmps56
    go_wp2_with fail
    refine (HW.out _ (HN.out.step H0.out.below) (HL.out.step H0.out.below)).mono ?_
    rintro e wH1 ⟨rfl, hb⟩
    have H1 := Lib.hid ((H0.out).step hb); clear hb
    try clear x0 x1
    obtain ⟨x0, x1, _⟩ := H1.out.1
    go_wp2_with fail
    go_ret
    exact ⟨ret_bool (by rw [HR.out]; simp), H1.out.below⟩
  · by_cases h0 : 0 ≤ k
    · by_cases h1 : k < (ls.length : Int)
      · have hb : b = true := HX.out.2 (by omega)
        have HBB := Lib.hid hb; clear hb
        go_enter Try.func56, Try.ntmps56
        go_wp2_with fail
        refine (HW.out _ (HN.out.step H0.out.below) (HL.out.step H0.out.below)).mono ?_
        rintro e wH1 ⟨rfl, hb⟩
        have H1 := Lib.hid ((H0.out).step hb); clear hb
        try clear x0 x1
        obtain ⟨x0, x1, _⟩ := H1.out.1
        go_wp2_with fail
        go_ret
        exact ⟨ret_bool (by rw [HR.out, HBB.out]; first | (simp; done) | (simp; omega)), H1.out.below⟩
      · have hb : b = false := by cases b; · rfl
                                  · have := HX.out.1 rfl; omega
        have HBB := Lib.hid hb; clear hb
        go_enter Try.func56, Try.ntmps56
        go_wp2_with fail
        refine (HW.out _ (HN.out.step H0.out.below) (HL.out.step H0.out.below)).mono ?_
        rintro e wH1 ⟨rfl, hb⟩
        have H1 := Lib.hid ((H0.out).step hb); clear hb
        try clear x0 x1
        obtain ⟨x0, x1, _⟩ := H1.out.1
        go_wp2_with fail
        go_ret
        exact ⟨ret_bool (by rw [HR.out, HBB.out]; first | (simp; done) | (simp; omega)), H1.out.below⟩
    · have hb : b = false := by cases b; · rfl
                                · have := HX.out.1 rfl; omega
      have HBB := Lib.hid hb; clear hb
      go_enter Try.func56, Try.ntmps56
      go_wp2_with fail
      refine (HW.out _ (HN.out.step H0.out.below) (HL.out.step H0.out.below)).mono ?_
      rintro e wH1 ⟨rfl, hb⟩
      have H1 := Lib.hid ((H0.out).step hb); clear hb
      try clear x0 x1
      obtain ⟨x0, x1, _⟩ := H1.out.1
      go_wp2_with fail
      go_ret
      exact ⟨ret_bool (by rw [HR.out, HBB.out]; first | (simp; done) | (simp; omega)), H1.out.below⟩

end Go.Proofs.Ytfppnaknnijobaa
