/-
  Walks along the border of a face, of the model and of the program.
-/
import Derived.Test.YtghpbdgghliieacWalkP
import Derived.Test.YtghpbdgghliieacCnt
import Derived.Test.YtghpbdgghliieacEndN
namespace Go.Proofs.Ytghpbdgghliieac
open Go.RowKit
set_option linter.unusedVariables false
set_option linter.unusedSimpArgs false

theorem twinI_tw {d : Nat} (h : d < 40) : twinI (d : Int) = (tw d : Nat) := by
  unfold twinI; rw [if_pos (by simp [inB]; omega), tw_xor h]


set_option maxRecDepth 100000 in
theorem implNextN (ns ls : List Nd) (vn vl : Value) (d : Nat) (w : World) (hn : Prs w vn ns) (hl : Prs w vl ls) (hw : winB ns ls = true) (hd : d < 2 * ls.length) :
    Calls Try.prog 62 #[.agg #[vn, vl], .int .i64 d] w (IntIs (nxN ns ls d : Nat) w) := by
  have HN := Lib.hid hn
  have HL := Lib.hid hl
  obtain ⟨A, c, rfl⟩ := prs_form2 hn
  obtain ⟨A2, c2, rfl⟩ := prs_form2 hl
  clear hn hl
  have H0 := Lib.hid (held_pair w (.slice A ns.length c) (.slice A2 ls.length c2) 78)
  have h20 := ((winB_iff ns ls).1 hw).1.2
  have HT := implTwin (d : Int)
  rw [twinI_tw (by omega)] at HT
  have HT := Lib.hid HT
  have HS := fun w h1 h2 => implTurned ns ls (.slice A ns.length c) (.slice A2 ls.length c2) (tw d) (-1) w h1 h2 hw (tw_lt hd) (.inr rfl)
  rw [nx_step hw hd] at HS
  unfold IntIs at HS
  have HS := Lib.hid HS
  clear hw hd h20
  generalize nxN ns ls d = r at *
  generalize tw d = t at *
  go_enter Try.func62, Try.ntmps62
  go_wp2_with fail
  refine regionD (S := fun W => Held _ W [(w.heap.size, 0, .slice A ns.length c), (w.heap.size, 1, .slice A2 ls.length c2)]) (by kernel_rfl) H0.out.drew ?_
  iterate 5 (refine takeT (v := ?_) rfl (by kernel_rfl) (by kernel_rfl) (by kernel_rfl) ?_ ?_; rotate_left; (first | (refine Or.inr ⟨by rfl, ?_⟩; with_reducible rfl) | (refine Or.inl ⟨by rfl, fun W hS => detRes_value (w' := W) ?_ hS⟩; obtain ⟨x0, x1, _⟩ := hS.1; go_simp; first | done | with_reducible rfl) | (refine Or.inl ⟨by rfl, fun W hS => ?_⟩; refine detRes_call (w' := W) (f := ?_) (args := ?_) ?_ ?_; rotate_left 2; (go_simp; (refine ⟨?_, ?_⟩ <;> with_reducible rfl)); (first | (with_reducible refine (HT.out _).mono ?_) | (with_reducible refine (HS.out _ (HN.out.step hS.below) (HL.out.step hS.below)).mono ?_) | fail); (first | (rintro e wn ⟨rfl, hb⟩; refine ⟨?_, hS.step hb⟩; with_reducible rfl) | (rintro e wn ⟨rfl, rfl⟩; refine ⟨?_, hS⟩; with_reducible rfl) | fail)) | fail); (simp only [Act.put, List.setIfInBounds_toArray, List.set_cons_zero, List.set_cons_succ]))
  refine doneD (by kernel_rfl) fun wH2 HS => ?_
  have H2 := Lib.hid HS; clear HS
  try clear x0 x1
  obtain ⟨x0, x1, _⟩ := H2.out.1
  go_wp2_with fail
  go_ret
  exact ⟨rfl, H2.out.below⟩

set_option maxRecDepth 100000 in
theorem specNextN (ns ls : List Nd) (vn vl : Value) (d : Nat) (w : World) (hn : Prs w vn ns) (hl : Prs w vl ls) (hw : winB ns ls = true) (hd : d < 2 * ls.length) :
    Calls Try.prog 58 #[.agg #[vn, vl], .int .i64 d] w (IntIs (nxN ns ls d : Nat) w) := by
  have HN := Lib.hid hn
  have HL := Lib.hid hl
  obtain ⟨A, c, rfl⟩ := prs_form2 hn
  obtain ⟨A2, c2, rfl⟩ := prs_form2 hl
  clear hn hl
  have H0 := Lib.hid (held_pair w (.slice A ns.length c) (.slice A2 ls.length c2) 31)
  have h20 := ((winB_iff ns ls).1 hw).1.2
  have hx := tw_xor (d := d) (by omega)
  have HS := fun w h1 h2 => specStep ns ls (.slice A ns.length c) (.slice A2 ls.length c2) (tw d) (-1) w h1 h2 hw (tw_lt hd) (.inr rfl)
  rw [nx_step hw hd] at HS
  unfold IntIs at HS
  have HS := Lib.hid HS
  clear hw hd h20
  generalize nxN ns ls d = r at *
  generalize tw d = t at *
  go_enter Try.func58, Try.ntmps58
  go_wp2_with fail
  refine (HS.out _ (HN.out.step H0.out.below) (HL.out.step H0.out.below)).mono ?_
  rintro e wH2 ⟨rfl, hb⟩
  have H2 := Lib.hid ((H0.out).step hb); clear hb
  try clear x0 x1
  obtain ⟨x0, x1, _⟩ := H2.out.1
  go_wp2_with fail
  go_ret
  exact ⟨rfl, H2.out.below⟩

set_option maxRecDepth 100000 in
theorem implNextD (ns ls : List Nd) (vn vl : Value) (d : Int) (w : World) (hn : Prs w vn ns) (hl : Prs w vl ls) :
    Calls Try.prog 18 #[.agg #[vn, vl], .int .i64 d] w (IntIs (nextI ns ls d) w) := by
  have HN := Lib.hid hn
  have HL := Lib.hid hl
  obtain ⟨A, c, rfl⟩ := prs_form2 hn
  obtain ⟨A2, c2, rfl⟩ := prs_form2 hl
  clear hn hl
  have H0 := Lib.hid (held_pair w (.slice A ns.length c) (.slice A2 ls.length c2) 31)
  have HW := Lib.hid (fun w h1 h2 => implHasDart ns ls (.slice A ns.length c) (.slice A2 ls.length c2) d w h1 h2)
  have HD := Lib.hid (drawingOf_any A A2 ns.length c ls.length c2)
  unfold ValIs at HD
  by_cases hh : hasDB ns ls d = true
  · obtain ⟨n, rfl, hd, h20, hw⟩ := hasDB_nat hh
    have HT := Lib.hid (fun w h1 h2 => implNextN ns ls (.slice A ns.length c) (.slice A2 ls.length c2) n w h1 h2 hw hd)
    unfold IntIs at HT
    have HR := Lib.hid (show nextI ns ls n = (nxN ns ls n : Nat) from if_pos hh)
    rw [hh] at HW
    clear hh hw
    generalize nextI ns ls (n : Int) = r at *
    generalize nxN ns ls n = r2 at *
    go_enter Try.func18, Try.ntmps18
    go_wp2_with fail
    refine (HW.out _ (HN.out.step H0.out.below) (HL.out.step H0.out.below)).mono ?_
    rintro e wH1 ⟨rfl, hb⟩
    have H1 := Lib.hid ((H0.out).step hb); clear hb
    try clear x0 x1
    obtain ⟨x0, x1, _⟩ := H1.out.1
    go_wp2_with fail
    refine (HD.out _).mono ?_
    rintro e wH2 ⟨rfl, hb⟩
    have H2 := Lib.hid ((H1.out).step hb); clear hb
    try clear x0 x1
    obtain ⟨x0, x1, _⟩ := H2.out.1
    go_wp2_with fail
    refine (HT.out _ (HN.out.step H2.out.below) (HL.out.step H2.out.below)).mono ?_
    rintro e wH3 ⟨rfl, hb⟩
    have H3 := Lib.hid ((H2.out).step hb); clear hb
    try clear x0 x1
    obtain ⟨x0, x1, _⟩ := H3.out.1
    go_wp2_with fail
    go_ret
    exact ⟨ret_int HR.out.symm, H3.out.below⟩
  · have HR := Lib.hid (show nextI ns ls d = -1 from if_neg hh)
    rw [show hasDB ns ls d = false by simpa using hh] at HW
    clear hh
    generalize nextI ns ls d = r at *
    go_enter Try.func18, Try.ntmps18
    go_wp2_with fail
    refine (HW.out _ (HN.out.step H0.out.below) (HL.out.step H0.out.below)).mono ?_
    rintro e wH1 ⟨rfl, hb⟩
    have H1 := Lib.hid ((H0.out).step hb); clear hb
    try clear x0 x1
    obtain ⟨x0, x1, _⟩ := H1.out.1
    go_wp2_with fail
    go_ret
    exact ⟨ret_int (by rw [HR.out]), H1.out.below⟩

set_option maxRecDepth 100000 in
theorem specNextD (ns ls : List Nd) (vn vl : Value) (d : Int) (w : World) (hn : Prs w vn ns) (hl : Prs w vl ls) (hls : ls.length ≤ 1048576) :
    Calls Try.prog 16 #[.agg #[vn, vl], .int .i64 d] w (IntIs (nextI ns ls d) w) := by
  have HN := Lib.hid hn
  have HL := Lib.hid hl
  obtain ⟨A, c, rfl⟩ := prs_form2 hn
  obtain ⟨A2, c2, rfl⟩ := prs_form2 hl
  clear hn hl
  have H0 := Lib.hid (held_pair w (.slice A ns.length c) (.slice A2 ls.length c2) 31)
  have HW := Lib.hid (fun w h1 h2 => specIs ns ls (.slice A ns.length c) (.slice A2 ls.length c2) d w h1 h2 hls)
  by_cases hh : hasDB ns ls d = true
  · obtain ⟨n, rfl, hd, h20, hw⟩ := hasDB_nat hh
    have HT := Lib.hid (fun w h1 h2 => specNextN ns ls (.slice A ns.length c) (.slice A2 ls.length c2) n w h1 h2 hw hd)
    unfold IntIs at HT
    have HR := Lib.hid (show nextI ns ls n = (nxN ns ls n : Nat) from if_pos hh)
    rw [hh] at HW
    clear hh hw
    generalize nextI ns ls (n : Int) = r at *
    generalize nxN ns ls n = r2 at *
    go_enter Try.func16, Try.ntmps16
    go_wp2_with fail
    refine (HW.out _ (HN.out.step H0.out.below) (HL.out.step H0.out.below)).mono ?_
    rintro e wH1 ⟨rfl, hb⟩
    have H1 := Lib.hid ((H0.out).step hb); clear hb
    try clear x0 x1
    obtain ⟨x0, x1, _⟩ := H1.out.1
    go_wp2_with fail
    refine (HT.out _ (HN.out.step H1.out.below) (HL.out.step H1.out.below)).mono ?_
    rintro e wH3 ⟨rfl, hb⟩
    have H3 := Lib.hid ((H1.out).step hb); clear hb
    try clear x0 x1
    obtain ⟨x0, x1, _⟩ := H3.out.1
    go_wp2_with fail
    go_ret
    exact ⟨ret_int HR.out.symm, H3.out.below⟩
  · have HR := Lib.hid (show nextI ns ls d = -1 from if_neg hh)
    rw [show hasDB ns ls d = false by simpa using hh] at HW
    clear hh
    generalize nextI ns ls d = r at *
    go_enter Try.func16, Try.ntmps16
    go_wp2_with fail
    refine (HW.out _ (HN.out.step H0.out.below) (HL.out.step H0.out.below)).mono ?_
    rintro e wH1 ⟨rfl, hb⟩
    have H1 := Lib.hid ((H0.out).step hb); clear hb
    try clear x0 x1
    obtain ⟨x0, x1, _⟩ := H1.out.1
    go_wp2_with fail
    go_ret
    exact ⟨ret_int (by rw [HR.out]), H1.out.below⟩


end Go.Proofs.Ytghpbdgghliieac
