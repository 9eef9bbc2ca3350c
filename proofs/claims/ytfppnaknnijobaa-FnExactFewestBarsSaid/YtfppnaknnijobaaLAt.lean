/-
  LeadsAt and DegreeOf, of the model and of the program.
-/
import Derived.Test.YtfppnaknnijobaaWinS
import Derived.Test.YtfppnaknnijobaaWinJ
import Derived.Test.YtfppnaknnijobaaInts
namespace Go.Proofs.Ytfppnaknnijobaa
open Go.RowKit
set_option linter.unusedVariables false
set_option linter.unusedSimpArgs false

theorem fieldD (a b : Value) (w : World) : (Instr.field 74 (.agg #[a, b]) 0).run Try.prog w = .ok a w := by kernel_rfl

set_option maxRecDepth 100000 in
theorem implHasNode (ns ls : List Nd) (vn vl : Value) (k : Int) (w : World) (hn : Prs w vn ns) (hl : Prs w vl ls) :
    Calls Try.prog 68 #[.agg #[vn, vl], .int .i64 k] w (BoolIs (hasB ns ls k) w) := by
  have HN := Lib.hid hn
  have HL := Lib.hid hl
  have hlen := hn.len
  obtain ⟨A, c, rfl⟩ := prs_form2 hn
  obtain ⟨A2, c2, rfl⟩ := prs_form2 hl
  clear hn hl
  have H0 := Lib.hid (held_pair w (.slice A ns.length c) (.slice A2 ls.length c2) 32)
  have HW := Lib.hid (fun w h1 h2 => implWin ns ls (.slice A ns.length c) (.slice A2 ls.length c2) w h1 h2)
  have HD := Lib.hid (drawingOf_any A A2 ns.length c ls.length c2)
  unfold ValIs at HD
  have hfd := fieldD (.slice A ns.length c) (.slice A2 ls.length c2)
  have HH := Lib.hid (fun w => implHas A ns.length c k w (by omega))
  have HR := Lib.hid (show hasB ns ls k = (winB ns ls && idxB ns.length k) from rfl)
  generalize hasB ns ls k = r at *
  generalize winB ns ls = d at *
  generalize idxB ns.length k = b at *
  cases d
  · go_enter Try.func68, Try.ntmps68
    go_wp2_with fail
    refine (HW.out _ (HN.out.step H0.out.below) (HL.out.step H0.out.below)).mono ?_
    rintro e wH1 ⟨rfl, hb⟩
    have H1 := Lib.hid ((H0.out).step hb); clear hb
    try clear x0 x1
    obtain ⟨x0, x1, _⟩ := H1.out.1
    go_wp2_with fail
    go_ret
    exact ⟨ret_bool (by rw [HR.out]; simp), H1.out.below⟩
  · go_enter Try.func68, Try.ntmps68
    go_wp2_with fail
    refine (HW.out _ (HN.out.step H0.out.below) (HL.out.step H0.out.below)).mono ?_
    rintro e wH1 ⟨rfl, hb⟩
    have H1 := Lib.hid ((H0.out).step hb); clear hb
    try clear x0 x1
    obtain ⟨x0, x1, _⟩ := H1.out.1
    go_wp2_with fail
    refine (HD.out _).mono ?_
    rintro e wH2 ⟨rfl, hb⟩
    have H2 := Lib.hid ((H1.out).step hb); clear hb
    try clear x0 x1
    obtain ⟨x0, x1, _⟩ := H2.out.1
    go_wp2_with fail
    refine (HH.out _).mono ?_
    rintro e w' ⟨rfl, rfl⟩
    go_wp2_with fail
    go_ret
    exact ⟨ret_bool (by rw [HR.out]; simp), H2.out.below⟩

set_option maxRecDepth 100000 in
theorem implLeadsAt (ns ls : List Nd) (vn vl : Value) (k : Int) (w : World) (hn : Prs w vn ns) (hl : Prs w vl ls) :
    Calls Try.prog 79 #[.agg #[vn, vl], .int .i64 k] w (IntsNew (atsI ns ls k) w) := by
  have HN := Lib.hid hn
  have HL := Lib.hid hl
  obtain ⟨A, c, rfl⟩ := prs_form2 hn
  obtain ⟨A2, c2, rfl⟩ := prs_form2 hl
  have hcap := prs_cap hl
  clear hn hl
  obtain ⟨i0, hi, hz0, hz1, hz2⟩ := info_parts infoInt
  have HI := Lib.hid (And.intro hi (And.intro hz0 (And.intro hz1 hz2))); clear hi hz0 hz1 hz2
  have H0 := Lib.hid (held_pair w (.slice A ns.length c) (.slice A2 ls.length c2) 32)
  have HW := Lib.hid (fun w h1 h2 => implHasNode ns ls (.slice A ns.length c) (.slice A2 ls.length c2) k w h1 h2)
  have HR := Lib.hid (show atsI ns ls k = if hasB ns ls k = true then atL ls k ls.length else [] from rfl)
  generalize atsI ns ls k = r at *
  have HD0 := Lib.hid (show hasB ns ls k = false → r = [] from fun h => by rw [HR.out, h]; rfl)
  have HD1 := Lib.hid (show hasB ns ls k = true → atL ls k ls.length = r from fun h => by rw [HR.out, if_pos h])
  have HOG := Lib.hid (show hasB ns ls k = true → ∀ i, i < ls.length → (0 ≤ otherI (atN ls i) k ↔ ((atN ls i).x = k ∨ (atN ls i).y = k)) from fun h i hi => other_ge (by unfold hasB at h; simp at h; exact h.1) hi k)
  have HLE := Lib.hid (show hasB ns ls k = true → ls.length ≤ 20 from fun h => ((winB_iff ns ls).1 (by unfold hasB at h; simp at h; exact h.1)).1.2)
  have HLN := Lib.hid (atL_len ls k)
  have HST := Lib.hid (fun n => (show atL ls k (n + 1) = if (atN ls n).x = k ∨ (atN ls n).y = k then atL ls k n ++ [(n : Int)] else atL ls k n from rfl))
  have HZ := Lib.hid (show atL ls k 0 = [] from rfl)
  clear HR
  generalize hasB ns ls k = d at *
  obtain ⟨_, hc1, hc2⟩ := hcap
  cases d
  · go_enter Try.func79, Try.ntmps79
    go_wp2_with fail
    refine (HW.out _ (HN.out.step H0.out.below) (HL.out.step H0.out.below)).mono ?_
    rintro e wH1 ⟨rfl, hb⟩
    have H1 := Lib.hid ((H0.out).step hb); clear hb
    try clear x0 x1
    obtain ⟨x0, x1, _⟩ := H1.out.1
    go_wp2_with fail
    go_ret
    exact ⟨_, rfl, by rw [HD0.out (by trivial)]; exact Ints.nil _ _, H1.out.below⟩
  · have HLE := HLE.out (by trivial)
    go_enter Try.func79, Try.ntmps79
    go_wp2_with fail
    refine (HW.out _ (HN.out.step H0.out.below) (HL.out.step H0.out.below)).mono ?_
    rintro e wH1 ⟨rfl, hb⟩
    have H1 := Lib.hid ((H0.out).step hb); clear hb
    try clear x0 x1
    obtain ⟨x0, x1, _⟩ := H1.out.1
    obtain ⟨y0, y1, _⟩ := H1.out.2.1
    go_wp2_with fail
    have HB1 := Lib.hid H1.out.below
    clear H0
    go_loopw [5, 16] (fun v i wr => ∃ m : Nat, m ≤ ls.length ∧ i = .int .i64 m ∧ Ints wr w.heap.size v (atL ls k m) ∧ Below w.heap.size w wr) (fun _ i _ => ls.length - (intOf i).toNat)
    case atStart => exact ⟨0, Nat.zero_le _, rfl, by rw [HZ.out]; exact World.ownsRow_made _ _ _ HB1.out.size (by unfold maxLen; omega) rfl, HB1.out.alloc HB1.out.size _⟩
    case round =>
      clear H1 HB1
      obtain ⟨m, hm, rfl, hown, hb⟩ := hrel
      have HOWN := Lib.hid hown; clear hown
      have HB := Lib.hid hb; clear hb
      have hsz := HB.out.size
      by_cases hlt : m < ls.length
      · obtain ⟨b, o, c', he, hbl, hcs⟩ := prs_at2 (HL.out.step HB.out) hlt
        injection he with he1 he2 he3
        subst he1
        clear he2 he3
        obtain ⟨c0, c1⟩ := hcs m hlt
        clear hcs
        have HX := Lib.hid (implOther (atN ls m) k)
        have HY := Lib.hid (HOG.out (by trivial) m hlt)
        have HS := Lib.hid (HST.out m)
        have hll := HLN.out m
        generalize otherI (atN ls m) k = q at *
        generalize atN ls m = n at *
        obtain ⟨nx, ny⟩ := n
        unfold Nd.val at HX
        simp only at c0 c1 HX HY HS
        have hz1 : (m : Int) < (ls.length : Int) := by omega
        have hz2 : (0 : Int) ≤ m := by omega
        by_cases hq : 0 ≤ q
        · go_wp2_with fail
          refine (HX.out _).mono ?_
          rintro e w1 ⟨rfl, hb1⟩
          have HO1 := Lib.hid ((HOWN.out.step ((Below.refl _ _).alloc (Nat.le_refl _) _)).step hb1)
          have HB1 := Lib.hid ((HB.out.alloc hsz _).trans (hb1.mono (Nat.le_trans hsz (by simp))))
          clear hb1
          have hsz1 := HB1.out.size
          obtain ⟨hi, hz0, hz1, hz2⟩ := HI.out
          go_wp2_with (at_builtin; refine wpList_append_own _ rfl _ _ 26 rfl w.heap.size 3 i0 (.int .i64 0) 1 8 Try.underlying26 hi hz0 hz1 hz2 rfl (by decide) _ _ _ rfl (World.ownsRow.alloc HO1.out _) ⟨w1.heap.size, 0, none⟩ 1 1 [.int .i64 m] rfl rfl ?c1 ?c2 ?c3 ?c4 ?c5 ?_)
          case c1 => exact cell_one_new _ _ _
          case c2 => simp [Value.oneCell']
          case c3 => unfold maxLen; omega
          case c4 => omega
          case c5 => simp; omega
          intro v' w2 hown hgrow _
          have HB2 := Lib.hid (HB1.out.trans (grown_below HO1.out hsz1 hgrow))
          have HO2 := Lib.hid (Ints.more hown); clear hown hgrow
          go_wp2_with fail
          exact ⟨⟨m + 1, by omega, by go_num, by rw [HS.out, if_pos (HY.out.1 hq)]; exact HO2.out, HB2.out⟩, by simp [intOf]; omega⟩
        · go_wp2_with fail
          refine (HX.out _).mono ?_
          rintro e w1 ⟨rfl, hb1⟩
          have HO1 := Lib.hid ((HOWN.out.step ((Below.refl _ _).alloc (Nat.le_refl _) _)).step hb1)
          have HB1 := Lib.hid ((HB.out.alloc hsz _).trans (hb1.mono (Nat.le_trans hsz (by simp))))
          clear hb1
          go_wp2_with fail
          exact ⟨⟨m + 1, by omega, by go_num, by rw [HS.out, if_neg (fun h => by have := HY.out.2 h; omega)]; exact HO1.out, HB1.out⟩, by simp [intOf]; omega⟩
      · obtain rfl : m = ls.length := by omega
        go_wp2_with fail
        go_ret
        exact ⟨_, rfl, by rw [← HD1.out (by trivial)]; exact HOWN.out, HB.out⟩

set_option maxRecDepth 100000 in
theorem specLeadsAt (ns ls : List Nd) (vn vl : Value) (k : Int) (w : World) (hn : Prs w vn ns) (hl : Prs w vl ls) :
    Calls Try.prog 76 #[.agg #[vn, vl], .int .i64 k] w (IntsNew (atsI ns ls k) w) := by
  have HN := Lib.hid hn
  have HL := Lib.hid hl
  have hlen := hn.len
  obtain ⟨A, c, rfl⟩ := prs_form2 hn
  obtain ⟨A2, c2, rfl⟩ := prs_form2 hl
  have hcap := prs_cap hl
  clear hn hl
  obtain ⟨i0, hi, hz0, hz1, hz2⟩ := info_parts infoInt
  have HI := Lib.hid (And.intro hi (And.intro hz0 (And.intro hz1 hz2))); clear hi hz0 hz1 hz2
  have H0 := Lib.hid (heldW w (.slice A ns.length c) (.slice A2 ls.length c2) 32)
  unfold BW at H0
  have HW := Lib.hid (fun w h1 h2 => specWin ns ls (.slice A ns.length c) (.slice A2 ls.length c2) w h1 h2)
  have HIN := Lib.hid (fun w => idxB_in ns.length k ▸ specIn k 0 ((ns.length : Int) - 1) w)
  have HR := Lib.hid (show atsI ns ls k = if (winB ns ls && idxB ns.length k) = true then atL ls k ls.length else [] from rfl)
  generalize atsI ns ls k = r at *
  have HLE := Lib.hid (show winB ns ls = true → ls.length ≤ 20 from fun h => ((winB_iff ns ls).1 h).1.2)
  have HLN := Lib.hid (atL_len ls k)
  have HST := Lib.hid (fun n => (show atL ls k (n + 1) = if (atN ls n).x = k ∨ (atN ls n).y = k then atL ls k n ++ [(n : Int)] else atL ls k n from rfl))
  have HZ := Lib.hid (show atL ls k 0 = [] from rfl)
  obtain ⟨_, hc1, hc2⟩ := hcap
  generalize winB ns ls = d at *
  generalize idxB ns.length k = b at *
  have HD0 := Lib.hid (show (d && b) = false → r = [] from fun h => by rw [HR.out, h]; rfl)
  have HD1 := Lib.hid (show (d && b) = true → atL ls k ls.length = r from fun h => by rw [HR.out, if_pos h])
  clear HR
  by_cases hdb : (d && b) = true
  · obtain ⟨rfl, rfl⟩ : d = true ∧ b = true := by simpa using hdb
    clear hdb
    have HLE := HLE.out (by trivial)
    go_enter Try.func76, Try.ntmps76
    go_wp2_with fail
    go_loopw [5, 6] (fun v i wr => ∃ m : Nat, m ≤ ls.length ∧ i = .int .i64 m ∧ Ints wr (w.heap.size + 1) v (atL ls k m) ∧ Held w wr [(w.heap.size, 0, .slice A ns.length c), (w.heap.size, 1, .slice A2 ls.length c2)]) (fun _ i _ => ls.length - (intOf i).toNat)
    case atStart => exact ⟨0, Nat.zero_le _, rfl, by rw [HZ.out]; exact Ints.made _ _ _ (by simp) (Nat.le_refl _), H0.out.alloc _⟩
    case round =>
      clear H0
      obtain ⟨m, hm, rfl, hown, hh⟩ := hrel
      have HOWN := Lib.hid hown; clear hown
      have H1 := Lib.hid hh; clear hh
      obtain ⟨x0, x1, _⟩ := H1.out.1
      by_cases hlt : m < ls.length
      · obtain ⟨b', o, c', he, hbl, hcs⟩ := prs_at2 (HL.out.step H1.out.below) hlt
        injection he with he1 he2 he3
        subst he1
        clear he2 he3
        have H2 := Lib.hid (held_more H1.out (P1_cs hcs hlt) (P1_bs (k := m) hbl))
        unfold P1 at H2
        clear hcs
        have HS := Lib.hid (HST.out m)
        have hll := HLN.out m
        generalize (atN ls m).x = nx at *
        generalize (atN ls m).y = ny at *
        clear x0 x1
        have hz1 : (m : Int) < (ls.length : Int) := by omega
        have hz2 : (0 : Int) ≤ m := by omega
        obtain ⟨x0, x1, x2, x3, _⟩ := H2.out.1
        by_cases ex : nx = k
        · have g1 : (nx == k) = true := by simpa using ex
          have EX := Lib.hid ex; clear ex
          go_wp2_with fail
          refine (HW.out _ (HN.out.step H2.out.below) (HL.out.step H2.out.below)).mono ?_
          rintro e w1 ⟨rfl, hb1⟩
          have HO1 := Lib.hid (HOWN.out.step hb1)
          have H3 := Lib.hid (H2.out.step hb1)
          clear hb1 x0 x1 x2 x3
          obtain ⟨x0, x1, x2, x3, _⟩ := H3.out.1
          have hsz1 := H3.out.2.1.1
          go_wp2_with fail
          refine (HIN.out _).mono ?_
          rintro e w' ⟨rfl, rfl⟩
          obtain ⟨hi, hz0, hz1, hz2⟩ := HI.out
          go_wp2_with (at_builtin; refine wpList_append_own _ rfl _ _ 26 rfl (w.heap.size + 1) 3 i0 (.int .i64 0) 1 8 Try.underlying26 hi hz0 hz1 hz2 rfl (by decide) _ _ _ rfl (World.ownsRow.alloc HO1.out _) ⟨w1.heap.size, 0, none⟩ 1 1 [.int .i64 m] rfl rfl ?c1 ?c2 ?c3 ?c4 ?c5 ?_)
          case c1 => exact cell_one_new _ _ _
          case c2 => simp [Value.oneCell']
          case c3 => unfold maxLen; omega
          case c4 => omega
          case c5 => simp; omega
          intro v' w2 hown hgrow _
          have H4 := Lib.hid ((H3.out.only (gs := [(w.heap.size, 0, .slice A ns.length c), (w.heap.size, 1, .slice (some ⟨b', o, none⟩) ls.length c2)]) (fun ⟨a, b, _⟩ => ⟨a, b, trivial⟩) (fun ⟨a, b, _⟩ => ⟨a, b, trivial⟩)).stepB (B := w.heap.size + 1) ⟨Nat.lt_succ_self _, Nat.lt_succ_self _, trivial⟩ (grown_below HO1.out hsz1 hgrow) (Nat.le_succ _))
          have HO2 := Lib.hid (Ints.more hown); clear hown hgrow
          go_wp2_with fail
          exact ⟨⟨m + 1, by omega, by go_num, by rw [HS.out, if_pos (.inl EX.out)]; exact HO2.out, H4.out⟩, by simp [intOf]; omega⟩
        · have g1 : (nx == k) = false := by rw [beq_eq_false_iff_ne]; exact ex
          have EX := Lib.hid ex; clear ex
          by_cases ey : ny = k
          · have g2 : (ny == k) = true := by simpa using ey
            have EY := Lib.hid ey; clear ey
            go_wp2_with fail
            refine (HW.out _ (HN.out.step H2.out.below) (HL.out.step H2.out.below)).mono ?_
            rintro e w1 ⟨rfl, hb1⟩
            have HO1 := Lib.hid (HOWN.out.step hb1)
            have H3 := Lib.hid (H2.out.step hb1)
            clear hb1 x0 x1 x2 x3
            obtain ⟨x0, x1, x2, x3, _⟩ := H3.out.1
            have hsz1 := H3.out.2.1.1
            go_wp2_with fail
            refine (HIN.out _).mono ?_
            rintro e w' ⟨rfl, rfl⟩
            obtain ⟨hi, hz0, hz1, hz2⟩ := HI.out
            go_wp2_with (at_builtin; refine wpList_append_own _ rfl _ _ 26 rfl (w.heap.size + 1) 3 i0 (.int .i64 0) 1 8 Try.underlying26 hi hz0 hz1 hz2 rfl (by decide) _ _ _ rfl (World.ownsRow.alloc HO1.out _) ⟨w1.heap.size, 0, none⟩ 1 1 [.int .i64 m] rfl rfl ?c1 ?c2 ?c3 ?c4 ?c5 ?_)
            case c1 => exact cell_one_new _ _ _
            case c2 => simp [Value.oneCell']
            case c3 => unfold maxLen; omega
            case c4 => omega
            case c5 => simp; omega
            intro v' w2 hown hgrow _
            have H4 := Lib.hid ((H3.out.only (gs := [(w.heap.size, 0, .slice A ns.length c), (w.heap.size, 1, .slice (some ⟨b', o, none⟩) ls.length c2)]) (fun ⟨a, b, _⟩ => ⟨a, b, trivial⟩) (fun ⟨a, b, _⟩ => ⟨a, b, trivial⟩)).stepB (B := w.heap.size + 1) ⟨Nat.lt_succ_self _, Nat.lt_succ_self _, trivial⟩ (grown_below HO1.out hsz1 hgrow) (Nat.le_succ _))
            have HO2 := Lib.hid (Ints.more hown); clear hown hgrow
            go_wp2_with fail
            exact ⟨⟨m + 1, by omega, by go_num, by rw [HS.out, if_pos (.inr EY.out)]; exact HO2.out, H4.out⟩, by simp [intOf]; omega⟩
          · have g2 : (ny == k) = false := by rw [beq_eq_false_iff_ne]; exact ey
            have EY := Lib.hid ey; clear ey
            go_wp2_with fail
            refine (HW.out _ (HN.out.step H2.out.below) (HL.out.step H2.out.below)).mono ?_
            rintro e w1 ⟨rfl, hb1⟩
            have HO1 := Lib.hid (HOWN.out.step hb1)
            have H3 := Lib.hid (H2.out.step hb1)
            clear hb1 x0 x1 x2 x3
            obtain ⟨x0, x1, x2, x3, _⟩ := H3.out.1
            go_wp2_with fail
            refine (HIN.out _).mono ?_
            rintro e w' ⟨rfl, rfl⟩
            go_wp2_with fail
            exact ⟨⟨m + 1, by omega, by go_num, by rw [HS.out, if_neg (fun h => h.elim EX.out EY.out)]; exact HO1.out, H3.out.only (fun ⟨a, b, _⟩ => ⟨a, b, trivial⟩) (fun ⟨a, b, _⟩ => ⟨a, b, trivial⟩)⟩, by simp [intOf]; omega⟩
      · obtain rfl : m = ls.length := by omega
        go_wp2_with fail
        go_ret
        exact ⟨_, rfl, by rw [← HD1.out (by trivial)]; exact HOWN.out.mono (by omega), H1.out.below⟩
  · have hdb : (d && b) = false := by simpa using hdb
    have HE := Lib.hid (HD0.out hdb)
    have HDB := Lib.hid hdb; clear hdb
    go_enter Try.func76, Try.ntmps76
    go_wp2_with fail
    go_loopw [5, 6] (fun v i wr => i = .int .i64 0 ∧ Ints wr (w.heap.size + 1) v [] ∧ Held w wr [(w.heap.size, 0, .slice A ns.length c), (w.heap.size, 1, .slice A2 ls.length c2)]) (fun _ _ _ => 0)
    case atStart => exact ⟨rfl, Ints.made _ _ _ (by simp) (Nat.le_refl _), H0.out.alloc _⟩
    case round =>
      clear H0
      obtain ⟨rfl, hown, hh⟩ := hrel
      have HOWN := Lib.hid hown; clear hown
      have H1 := Lib.hid hh; clear hh
      obtain ⟨x0, x1, _⟩ := H1.out.1
      by_cases hlt : 0 < ls.length
      · cases d
        · go_wp2_with fail
          refine (HW.out _ (HN.out.step H1.out.below) (HL.out.step H1.out.below)).mono ?_
          rintro e w1 ⟨rfl, hb1⟩
          have HO1 := Lib.hid (HOWN.out.step hb1)
          have H3 := Lib.hid (H1.out.step hb1)
          clear hb1 x0 x1
          obtain ⟨x0, x1, _⟩ := H3.out.1
          go_wp2_with fail
          go_ret
          exact ⟨_, rfl, by rw [HE.out]; exact HO1.out.mono (by omega), H3.out.below⟩
        · obtain rfl : b = false := by simpa using HDB.out
          go_wp2_with fail
          refine (HW.out _ (HN.out.step H1.out.below) (HL.out.step H1.out.below)).mono ?_
          rintro e w1 ⟨rfl, hb1⟩
          have HO1 := Lib.hid (HOWN.out.step hb1)
          have H3 := Lib.hid (H1.out.step hb1)
          clear hb1 x0 x1
          obtain ⟨x0, x1, _⟩ := H3.out.1
          go_wp2_with fail
          refine (HIN.out _).mono ?_
          rintro e w' ⟨rfl, rfl⟩
          go_wp2_with fail
          go_ret
          exact ⟨_, rfl, by rw [HE.out]; exact HO1.out.mono (by omega), H3.out.below⟩
      · go_wp2_with fail
        go_ret
        exact ⟨_, rfl, by rw [HE.out]; exact HOWN.out.mono (by omega), H1.out.below⟩
end Go.Proofs.Ytfppnaknnijobaa
