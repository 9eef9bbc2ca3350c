/-
  DropLead of the program: a copy of the window without lead k, or the copy alone.
-/
import Derived.Test.YtkkjcdilpbofmaaDel
namespace Go.Proofs.Ytkkjcdilpbofmaa
open Go.RowKit
set_option linter.unusedVariables false
set_option linter.unusedSimpArgs false

def hasLB (ns ls : List Nd) (k : Int) : Bool := winB ns ls && idxB ls.length k
def dropV (ns ls : List Nd) (k : Int) : List Nd := if hasLB ns ls k = true then dropL ls k.toNat else ls

set_option maxRecDepth 100000 in
theorem implHasLead (ns ls : List Nd) (vn vl : Value) (k : Int) (w : World) (hn : Prs w vn ns) (hl : Prs w vl ls) :
    Calls Try.prog 85 #[.agg #[vn, vl], .int .i64 k] w (BoolIs (hasLB ns ls k) w) := by
  have HN := Lib.hid hn
  have HL := Lib.hid hl
  have hlen := hl.len
  obtain ⟨A, c, rfl⟩ := prs_form2 hn
  obtain ⟨A2, c2, rfl⟩ := prs_form2 hl
  clear hn hl
  have H0 := Lib.hid (held_pair w (.slice A ns.length c) (.slice A2 ls.length c2) 38)
  have HW := Lib.hid (fun w h1 h2 => implWin ns ls (.slice A ns.length c) (.slice A2 ls.length c2) w h1 h2)
  have HR := Lib.hid (show hasLB ns ls k = (winB ns ls && idxB ls.length k) from rfl)
  have HX := Lib.hid (idxB_iff ls.length k)
  generalize hasLB ns ls k = r at *
  generalize winB ns ls = d at *
  generalize idxB ls.length k = b at *
  cases d
  · go_enter Try.func85, Try.ntmps85
    go_wp2_with fail
    refine (HW.out _ (HN.out.step H0.out.below) (HL.out.step H0.out.below)).mono ?_
    rintro e wH1 ⟨rfl, hb⟩
    have H1 := Lib.hid ((H0.out).step hb); clear hb
    try clear x0 x1
    obtain ⟨x0, x1, _⟩ := H1.out.1
    go_wp2_with fail
    go_ret
    exact ⟨ret_bool (by rw [HR.out]; simp), H1.out.below⟩
  · by_cases h0 : 0 ≤ k
    · by_cases h1 : k < (ls.length : Int)
      · have hb : b = true := HX.out.2 (by omega)
        have HBB := Lib.hid hb; clear hb
        go_enter Try.func85, Try.ntmps85
        go_wp2_with fail
        refine (HW.out _ (HN.out.step H0.out.below) (HL.out.step H0.out.below)).mono ?_
        rintro e wH1 ⟨rfl, hb⟩
        have H1 := Lib.hid ((H0.out).step hb); clear hb
        try clear x0 x1
        obtain ⟨x0, x1, _⟩ := H1.out.1
        go_wp2_with fail
        go_ret
        exact ⟨ret_bool (by rw [HR.out, HBB.out]; first | (simp; done) | (simp; omega)), H1.out.below⟩
      · have hb : b = false := by cases b; · rfl
                                  · have := HX.out.1 rfl; omega
        have HBB := Lib.hid hb; clear hb
        go_enter Try.func85, Try.ntmps85
        go_wp2_with fail
        refine (HW.out _ (HN.out.step H0.out.below) (HL.out.step H0.out.below)).mono ?_
        rintro e wH1 ⟨rfl, hb⟩
        have H1 := Lib.hid ((H0.out).step hb); clear hb
        try clear x0 x1
        obtain ⟨x0, x1, _⟩ := H1.out.1
        go_wp2_with fail
        go_ret
        exact ⟨ret_bool (by rw [HR.out, HBB.out]; first | (simp; done) | (simp; omega)), H1.out.below⟩
    · have hb : b = false := by cases b; · rfl
                                · have := HX.out.1 rfl; omega
      have HBB := Lib.hid hb; clear hb
      go_enter Try.func85, Try.ntmps85
      go_wp2_with fail
      refine (HW.out _ (HN.out.step H0.out.below) (HL.out.step H0.out.below)).mono ?_
      rintro e wH1 ⟨rfl, hb⟩
      have H1 := Lib.hid ((H0.out).step hb); clear hb
      try clear x0 x1
      obtain ⟨x0, x1, _⟩ := H1.out.1
      go_wp2_with fail
      go_ret
      exact ⟨ret_bool (by rw [HR.out, HBB.out]; first | (simp; done) | (simp; omega)), H1.out.below⟩


set_option maxRecDepth 100000 in
set_option maxHeartbeats 1000000 in
theorem implDrop (ns ls : List Nd) (vn vl : Value) (k : Int) (w : World) (hn : Prs w vn ns) (hl : Prs w vl ls) (h1 : ns.length ≤ 1048576) (h2 : ls.length ≤ 1048576) :
    Calls Try.prog 43 #[.agg #[vn, vl], .int .i64 k] w (WinBIs ns (dropV ns ls k) (hasLB ns ls k) w) := by
  have HN := Lib.hid hn
  have HL := Lib.hid hl
  obtain ⟨A, c, rfl⟩ := prs_form2 hn
  obtain ⟨A2, c2, rfl⟩ := prs_form2 hl
  clear hn hl
  have H0 := Lib.hid (held_res w (.slice A ns.length c) (.slice A2 ls.length c2) 38 38)
  have B0 := Lib.hid (show BlkN (w.heap.size + 1) 38 2 ((w.alloc (.cells #[.slice A ns.length c, .slice A2 ls.length c2] 38)).alloc (.cells #[.slice none 0 0, .slice none 0 0] 38)) from ⟨_, hz2 _ _ _, rfl⟩)
  have HC := Lib.hid (fun w k1 k2 => copyOf_any ns ls (.slice A ns.length c) (.slice A2 ls.length c2) w k1 k2 h1 h2)
  unfold CopyIs at HC
  have HH := Lib.hid (fun w k1 k2 => implHasLead ns ls (.slice A ns.length c) (.slice A2 ls.length c2) k w k1 k2)
  have HYE := Lib.hid (show (hasLB ns ls k = true → dropV ns ls k = dropL ls k.toNat) ∧ (hasLB ns ls k = false → dropV ns ls k = ls) from ⟨fun h => if_pos h, fun h => if_neg (by rw [h]; exact Bool.false_ne_true)⟩)
  have HK := Lib.hid (show hasLB ns ls k = true → ∃ q : Nat, k = q ∧ q < ls.length from fun h => by
    unfold hasLB at h
    simp only [Bool.and_eq_true] at h
    have := (idxB_iff _ _).1 h.2
    exact ⟨k.toNat, by omega, by omega⟩)
  generalize dropV ns ls k = rl at *
  generalize hasLB ns ls k = r at *
  go_enter Try.func43, Try.ntmps43
  obtain ⟨x0, x1, x2, x3, _⟩ := H0.out.1
  go_wp2_with fail
  refine (HH.out _ (HN.out.step H0.out.below) (HL.out.step H0.out.below)).mono ?_
  rintro e w1 ⟨rfl, hb⟩
  have H1 := Lib.hid (H0.out.step hb)
  have B1 := Lib.hid (B0.out.step hb)
  clear hb x0 x1 x2 x3
  obtain ⟨x0, x1, x2, x3, _⟩ := H1.out.1
  cases r
  · have HX := H1
    have BX := B1
    go_wp2_with fail
    refine (HC.out _ (HN.out.step HX.out.below) (HL.out.step HX.out.below)).mono ?_
    rintro e w8 ⟨u1, u2, rfl, hm, hb⟩
    have hb6 := HX.out.2.1.1
    have H8 := Lib.hid (HX.out.step hb)
    have f0 := (BX.out.step hb).frozen 0
    have f1 := (BX.out.step hb).frozen 1
    have OU := Lib.hid hm.own
    have MU := Lib.hid hm
    clear hm hb
    try clear x0 x1 x2 x3
    obtain ⟨aU, cU, rfl, -⟩ := MU.out.1.form
    obtain ⟨aU', cU', rfl, -⟩ := MU.out.2.form
    have MZ := Lib.hid (((MU.out.setFar (b := w.heap.size + 1) (o := 0) (x := .slice aU ns.length cU) (fun e => by have := OU.out _ (.inl e); omega) (fun e => by have := OU.out _ (.inr e); omega)).setFar (b := w.heap.size + 1) (o := 1) (x := .slice aU' ls.length cU') (fun e => by have := OU.out _ (.inl e); omega) (fun e => by have := OU.out _ (.inr e); omega)).mono (Lo' := w.heap.size) (by omega))
    have HZ := Lib.hid (H8.out.put2 (x' := .slice aU ns.length cU) (z := .slice aU' ls.length cU') ⟨by omega, by omega, trivial⟩ (by omega))
    have x2 := H8.out.1.1
    have x3 := H8.out.1.2.1
    go_wp2_with fail
    have y0 := HZ.out.1.1
    have y1 := HZ.out.1.2.1
    refine bodyPost_ret (v := .tuple #[.agg #[.slice aU ns.length cU, .slice aU' ls.length cU'], .bool false]) (by simp [results, Try.results43, go_sem, y0, y1]) rfl ?_
    exact ⟨_, _, rfl, by rw [HYE.out.2 trivial]; exact MZ.out, HZ.out.below⟩
  · obtain ⟨q, rfl, hq⟩ := HK.out rfl
    go_wp2_with fail
    refine (HC.out _ (HN.out.step H1.out.below) (HL.out.step H1.out.below)).mono ?_
    rintro e w2 ⟨v1, v2, rfl, hm, hb⟩
    have H2 := Lib.hid (H1.out.step hb)
    have hs1 := H1.out.2.1.1
    have hs2 := hb.size
    have MO2 := Lib.hid (hm.mono (Lo' := w.heap.size + 2) (by omega))
    have OB := Lib.hid MO2.out.own
    have B2 := Lib.hid (B1.out.step hb)
    clear hm hb x0 x1 x2 x3
    obtain ⟨a1, c1, rfl, -⟩ := MO2.out.1.form
    obtain ⟨a2, c2', rfl, -, -, hform⟩ := MO2.out.2.form
    obtain ⟨g, rfl⟩ : ∃ g, a2 = some ⟨g, 0, none⟩ := by
      rcases hform with ⟨_, h0⟩ | ⟨g, hg, _⟩
      · rw [h0] at hq; simp at hq
      · exact ⟨g, hg⟩
    clear hform
    have bb : Below w2.heap.size w2 (w2.alloc (.cells #[.slice a1 ns.length c1, .slice (some ⟨g, 0, none⟩) ls.length c2'] 38)) := (Below.refl _ _).alloc (Nat.le_refl _) _
    have H3 := Lib.hid (H2.out.new2 w2.heap.size rfl [.slice a1 ns.length c1, .slice (some ⟨g, 0, none⟩) ls.length c2'] 38)
    have MO3 := Lib.hid (MO2.out.step bb)
    have B3 := Lib.hid (B2.out.step bb)
    have X3 := Lib.hid (heap_alloc_new w2 (.cells #[.slice a1 ns.length c1, .slice (some ⟨g, 0, none⟩) ls.length c2'] 38))
    have HDE := Lib.hid (deleteLead q MO3.out.2 hq h2)
    clear bb MO2 B2 B1
    obtain ⟨x0, x1, x2, x3, x4, x5, _⟩ := H3.out.1
    have AP := Lib.hid (MO3.out.1.apart MO3.out.2 node_lead)
    have hgl := OB.out g (.inr rfl)
    have z0 : (0 : Int) ≤ q := by omega
    have z1 : (q : Int) < ls.length := by omega
    go_wp2_with fail
    refine HDE.out.mono ?_
    rintro e w6 ⟨rfl, hown1, hgrow⟩
    have H4 := Lib.hid (H3.out.grown hgrow ⟨fun e => by injection e with e; omega, fun e => by injection e with e; omega, fun e => by injection e with e; omega, fun e => by injection e with e; omega, fun e => by injection e with e; omega, fun e => by injection e with e; omega, trivial⟩ (fun j e => by injection e with e; omega))
    have MN4 := Lib.hid (MO3.out.1.keep fun j e => hgrow.block j (MO3.out.1.own j e).2 (fun e2 => AP.out j e e2.symm))
    obtain ⟨l2, hl2⟩ : ∃ l2, l2 = dropL ls q := ⟨_, rfl⟩
    have hL : ls.length - 1 = l2.length := by rw [hl2]; unfold dropL; simp; omega
    rw [← hl2, hL] at hown1
    rw [hL]
    have HL2 := Lib.hid hl2; clear hl2
    have hv1 : (Value.slice a1 ns.length c1).ownBlock ≠ some w2.heap.size := fun e => by have := OB.out _ (.inl e); omega
    have hgne : g ≠ w2.heap.size := by omega
    have X4 := (hgrow.block w2.heap.size (by simp) (fun e => by injection e with e; omega)).trans X3.out
    have f1 : w6.frozen? ⟨w2.heap.size, 1, none⟩ = false := BlkN.frozen ⟨_, X4, rfl⟩ 1
    have B5 := Lib.hid ((B3.out.same (hgrow.block (w.heap.size + 1) (by simp; omega) (fun e => by injection e with e; omega))).setFar (g := w2.heap.size) (o := 1) (x := .slice (some ⟨g, 0, none⟩) l2.length c2') (by omega))
    have MW5 := Lib.hid (show WinO (w6.setCell ⟨w2.heap.size, 1, none⟩ (.slice (some ⟨g, 0, none⟩) l2.length c2')) (w.heap.size + 2) (.slice a1 ns.length c1) (.slice (some ⟨g, 0, none⟩) l2.length c2') ns l2 from ⟨MN4.out.setFar hv1, hown1.setFar (fun e => hgne (by simpa [Value.ownBlock] using e))⟩)
    have z5 := H4.out.1.2.1
    have H5 := Lib.hid (H4.out.put1 (z := .slice (some ⟨g, 0, none⟩) l2.length c2') ⟨by omega, by omega, by omega, by omega, trivial⟩ (by omega))
    clear hown1 hgrow hv1 MN4 H4 X4 hL x0 x1 x2 x3 x4 x5
    have HX := Lib.hid (H5.out.only (fun h => h.2.2) (fun h => h.2.2))
    have OW := Lib.hid MW5.out.own
    have f2 := B5.out.frozen 0
    have f3 := B5.out.frozen 1
    have MZ := Lib.hid (((MW5.out.setFar (b := w.heap.size + 1) (o := 0) (x := .slice a1 ns.length c1) (fun e => by have := OW.out _ (.inl e); omega) (fun e => by have := OW.out _ (.inr e); omega)).setFar (b := w.heap.size + 1) (o := 1) (x := .slice (some ⟨g, 0, none⟩) l2.length c2') (fun e => by have := OW.out _ (.inl e); omega) (fun e => by have := OW.out _ (.inr e); omega)).mono (Lo' := w.heap.size) (by omega))
    have HZ := Lib.hid (HX.out.put2 (x' := .slice a1 ns.length c1) (z := .slice (some ⟨g, 0, none⟩) l2.length c2') ⟨by omega, by omega, trivial⟩ (by omega))
    obtain ⟨x0, x1, x2, x3, x4, x5, _⟩ := H5.out.1
    go_wp2_with fail
    have y0 := HZ.out.1.1
    have y1 := HZ.out.1.2.1
    refine bodyPost_ret (v := .tuple #[.agg #[.slice a1 ns.length c1, .slice (some ⟨g, 0, none⟩) l2.length c2'], .bool true]) (by simp [results, Try.results43, go_sem, y0, y1]) rfl ?_
    exact ⟨_, _, rfl, by rw [HYE.out.1 trivial]; exact HL2.out ▸ MZ.out, HZ.out.below⟩
end Go.Proofs.Ytkkjcdilpbofmaa
