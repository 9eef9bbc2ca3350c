/-
  AroundNode, of the model and of the program.
-/
import Derived.Test.YtkkjcdilpbofmabAroN
import Derived.Test.YtkkjcdilpbofmabAppI
namespace Go.Proofs.Ytkkjcdilpbofmab
open Go.RowKit
set_option linter.unusedVariables false
set_option linter.unusedSimpArgs false

def aroI (ns ls : List Nd) (k : Int) : List Int := if hasB ns ls k = true then aroL ns ls k.toNat (2 * ls.length) else []
theorem hasB_nat {ns ls : List Nd} {k : Int} (hh : hasB ns ls k = true) : ∃ q : Nat, k = q ∧ q < ns.length ∧ winB ns ls = true := by
  unfold hasB at hh
  simp only [Bool.and_eq_true] at hh
  have h2 := (idxB_iff _ _).1 hh.2
  exact ⟨k.toNat, by omega, by omega, hh.1⟩
theorem aro_len {ns ls : List Nd} (hw : winB ns ls = true) (k : Nat) : (aroL ns ls k (2 * ls.length)).length = (fromL ls k (2 * ls.length)).length := by
  rw [aro_sort]; exact sortL_len _ _ _ rfl
theorem aroI_len (ns ls : List Nd) (k : Int) : (aroI ns ls k).length ≤ 20 := by
  unfold aroI
  split
  · rename_i h
    obtain ⟨q, rfl, hq, hw⟩ := hasB_nat h
    have := from_le hw ((q : Int)).toNat
    rw [aro_len hw]; omega
  · simp

set_option maxRecDepth 100000 in
theorem implAroN (ns ls : List Nd) (vn vl : Value) (k : Int) (w : World) (hn : Prs w vn ns) (hl : Prs w vl ls) :
    Calls Try.prog 46 #[.agg #[vn, vl], .int .i64 k] w (IntsNew (aroI ns ls k) w) := by
  have HN := Lib.hid hn
  have HL := Lib.hid hl
  obtain ⟨A, c, rfl⟩ := prs_form2 hn
  obtain ⟨A2, c2, rfl⟩ := prs_form2 hl
  clear hn hl
  have H0 := Lib.hid (held_pair w (.slice A ns.length c) (.slice A2 ls.length c2) 27)
  have HW := Lib.hid (fun w h1 h2 => implHasNode ns ls (.slice A ns.length c) (.slice A2 ls.length c2) k w h1 h2)
  have HD := Lib.hid (drawingOf_any A A2 ns.length c ls.length c2)
  unfold ValIs at HD
  by_cases hh : hasB ns ls k = true
  · have HR := Lib.hid (show aroI ns ls k = aroL ns ls k.toNat (2 * ls.length) from if_pos hh)
    obtain ⟨q, rfl, hq, hw⟩ := hasB_nat hh
    have HP := Lib.hid (fun w h1 h2 => implAround ns ls (.slice A ns.length c) (.slice A2 ls.length c2) q w h1 h2 hw hq)
    unfold IntsNew at HP
    rw [hh] at HW
    clear hh hw
    generalize aroI ns ls (q : Int) = r at *
    go_enter Try.func46, Try.ntmps46
    go_wp2_with fail
    refine (HW.out _ (HN.out.step H0.out.below) (HL.out.step H0.out.below)).mono ?_
    rintro e wH1 ⟨rfl, hb⟩
    have H1 := Lib.hid ((H0.out).step hb); clear hb
    try clear x0 x1
    obtain ⟨x0, x1, _⟩ := H1.out.1
    go_wp2_with fail
    refine (HD.out _).mono ?_
    rintro e wH2 ⟨rfl, hb⟩
    have H2 := Lib.hid ((H1.out).step hb); clear hb
    try clear x0 x1
    obtain ⟨x0, x1, _⟩ := H2.out.1
    go_wp2_with fail
    refine (HP.out _ (HN.out.step H2.out.below) (HL.out.step H2.out.below)).mono ?_
    rintro e w3 ⟨v, rfl, hi, hb⟩
    have H3 := Lib.hid (H2.out.step hb)
    have HI := Lib.hid (hi.mono (b' := w.heap.size) (by have := H2.out.below.size; omega))
    clear hi hb
    go_wp2_with fail
    go_ret
    exact ⟨_, rfl, by rw [HR.out]; exact HI.out, H3.out.below⟩
  · have HR := Lib.hid (show aroI ns ls k = [] from if_neg hh)
    rw [show hasB ns ls k = false by simpa using hh] at HW
    clear hh
    generalize aroI ns ls k = r at *
    go_enter Try.func46, Try.ntmps46
    go_wp2_with fail
    refine (HW.out _ (HN.out.step H0.out.below) (HL.out.step H0.out.below)).mono ?_
    rintro e wH1 ⟨rfl, hb⟩
    have H1 := Lib.hid ((H0.out).step hb); clear hb
    try clear x0 x1
    obtain ⟨x0, x1, _⟩ := H1.out.1
    go_wp2_with fail
    go_ret
    exact ⟨_, rfl, by rw [HR.out]; exact Ints.nil _ _, H1.out.below⟩

set_option maxRecDepth 100000 in
set_option maxHeartbeats 2000000 in
theorem specAroN (ns ls : List Nd) (vn vl : Value) (k : Int) (w : World) (hn : Prs w vn ns) (hl : Prs w vl ls) :
    Calls Try.prog 45 #[.agg #[vn, vl], .int .i64 k] w (IntsNew (aroI ns ls k) w) := by
  have HN := Lib.hid hn
  have HL := Lib.hid hl
  have hlen := hn.len
  obtain ⟨A, c, rfl⟩ := prs_form2 hn
  obtain ⟨A2, c2, rfl⟩ := prs_form2 hl
  clear hn hl
  have H0 := Lib.hid (held_pair w (.slice A ns.length c) (.slice A2 ls.length c2) 27)
  have HW := Lib.hid (fun w h1 h2 => specWin ns ls (.slice A ns.length c) (.slice A2 ls.length c2) w h1 h2)
  have HIN := Lib.hid (fun w => idxB_in ns.length k ▸ specIn k 0 ((ns.length : Int) - 1) w)
  have HE := Lib.hid (show hasB ns ls k = (winB ns ls && idxB ns.length k) from rfl)
  by_cases hh : hasB ns ls k = true
  · have HR := Lib.hid (show aroI ns ls k = aroL ns ls k.toNat (2 * ls.length) from if_pos hh)
    have hwb : winB ns ls = true := by unfold hasB at hh; simp at hh; exact hh.1
    have hib : idxB ns.length k = true := by unfold hasB at hh; simp at hh; exact hh.2
    obtain ⟨q, rfl, hq⟩ : ∃ q : Nat, k = q ∧ q < ns.length := by
      have h2 := (idxB_iff _ _).1 hib
      exact ⟨k.toNat, by omega, by omega⟩
    have h12 := ((winB_iff ns ls).1 hwb).1.1.2
    have HP := Lib.hid (fun w h1 h2 => specAro ns ls (.slice A ns.length c) (.slice A2 ls.length c2) q w h1 h2 hwb hq)
    unfold IntsNew at HP
    rw [hwb] at HW
    rw [hib] at HIN
    clear hh hwb hib HE
    generalize aroI ns ls (q : Int) = r at *
    go_enter Try.func45, Try.ntmps45
    go_wp2_with fail
    refine (HW.out _ (HN.out.step H0.out.below) (HL.out.step H0.out.below)).mono ?_
    rintro e wH1 ⟨rfl, hb⟩
    have H1 := Lib.hid ((H0.out).step hb); clear hb
    try clear x0 x1
    obtain ⟨x0, x1, _⟩ := H1.out.1
    go_wp2_with fail
    refine (HIN.out _).mono ?_
    rintro e w' ⟨rfl, rfl⟩
    go_wp2_with fail
    refine (HP.out _ (HN.out.step H1.out.below) (HL.out.step H1.out.below)).mono ?_
    rintro e w3 ⟨v, rfl, hi, hb⟩
    have H3 := Lib.hid (H1.out.step hb)
    have HI := Lib.hid (hi.mono (b' := w.heap.size) (by have := H1.out.below.size; omega))
    clear hi hb
    go_wp2_with fail
    go_ret
    exact ⟨_, rfl, by rw [HR.out]; exact HI.out, H3.out.below⟩
  · have HR := Lib.hid (show aroI ns ls k = [] from if_neg hh)
    have HE0 : (winB ns ls && idxB ns.length k) = false := by rw [← HE.out]; simpa using hh
    clear hh HE
    generalize aroI ns ls k = r at *
    generalize winB ns ls = d at *
    generalize idxB ns.length k = b at *
    cases d
    · go_enter Try.func45, Try.ntmps45
      go_wp2_with fail
      refine (HW.out _ (HN.out.step H0.out.below) (HL.out.step H0.out.below)).mono ?_
      rintro e wH1 ⟨rfl, hb⟩
      have H1 := Lib.hid ((H0.out).step hb); clear hb
      try clear x0 x1
      obtain ⟨x0, x1, _⟩ := H1.out.1
      go_wp2_with fail
      go_ret
      exact ⟨_, rfl, by rw [HR.out]; exact Ints.made _ _ _ rfl (by have := H1.out.below.size; omega), H1.out.below.alloc (by have := H1.out.below.size; omega) _⟩
    · obtain rfl : b = false := by simpa using HE0
      go_enter Try.func45, Try.ntmps45
      go_wp2_with fail
      refine (HW.out _ (HN.out.step H0.out.below) (HL.out.step H0.out.below)).mono ?_
      rintro e wH1 ⟨rfl, hb⟩
      have H1 := Lib.hid ((H0.out).step hb); clear hb
      try clear x0 x1
      obtain ⟨x0, x1, _⟩ := H1.out.1
      go_wp2_with fail
      refine (HIN.out _).mono ?_
      rintro e w' ⟨rfl, rfl⟩
      go_wp2_with fail
      go_ret
      exact ⟨_, rfl, by rw [HR.out]; exact Ints.made _ _ _ rfl (by have := H1.out.below.size; omega), H1.out.below.alloc (by have := H1.out.below.size; omega) _⟩
end Go.Proofs.Ytkkjcdilpbofmab
