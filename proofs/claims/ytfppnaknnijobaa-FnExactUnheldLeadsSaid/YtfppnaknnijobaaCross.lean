/-
  How many bars cross a lead: of the model and of the program.
-/
import Derived.Test.YtfppnaknnijobaaGap
import Derived.Test.YtfppnaknnijobaaHasL
import Derived.Test.YtfppnaknnijobaaDetN
namespace Go.Proofs.Ytfppnaknnijobaa
open Go.RowKit
set_option linter.unusedVariables false
set_option linter.unusedSimpArgs false

theorem lead_ij {ns ls : List Nd} (hw : winB ns ls = true) {m : Nat} (hm : m < ls.length) : ∃ i j : Nat, atN ls m = ⟨i, j⟩ ∧ i < ns.length ∧ j < ns.length := by
  obtain ⟨i, j, e, _, h1, h2, h3, h4⟩ := leadOkB_spec (((winB_iff ns ls).1 hw).2.2 m hm).1
  exact ⟨i, j, e, h1, h2⟩
theorem fieldLLc (a b : Value) (w : World) : (Instr.field 74 (.agg #[a, b]) 0).run Try.prog w = .ok a w := by kernel_rfl
/-- How many of the bars lie between the heights of lead k's ends. -/
def crossL (ns ls : List Nd) (k : Nat) (xs : List Int) : List Int := betL (min (atN ns (atN ls k).x.toNat).y (atN ns (atN ls k).y.toNat).y) (max (atN ns (atN ls k).x.toNat).y (atN ns (atN ls k).y.toNat).y) xs xs.length
noncomputable def crossV (ns ls : List Nd) (k : Int) (xs : List Int) : Int := if (winB ns ls && barB xs && idxB ls.length k) = true then ((crossL ns ls k.toNat xs).length : Int) else -1
theorem freeR_twoN {w : World} {r : Result Next} {x y x2 y2 : Int} (h : r = .ok (.value (.slice (some ⟨w.heap.size, 0, none⟩) 2 2)) (w.alloc (.cells #[.int .i64 x, .int .i64 y, .int .i64 x2, .int .i64 y2] 49))) :
    FreeR Try.prog (fun v W => Prs W v [⟨x, y⟩, ⟨x2, y2⟩]) w r := by
  subst h
  refine ⟨⟨_, _, rfl, Nat.le_refl _, by unfold maxLen; decide, fun _ => ⟨w.heap.size, 0, rfl, by simp, fun k hk => ?_⟩⟩, (Below.refl _ _).alloc (Nat.le_refl _) _⟩
  have hb := heap_alloc_new w (.cells #[.int .i64 x, .int .i64 y, .int .i64 x2, .int .i64 y2] 49)
  match k, hk with
  | 0, _ => exact ⟨(cell_of_cells (k := 0) hb).trans rfl, (cell_of_cells (k := 1) hb).trans rfl⟩
  | 1, _ => exact ⟨(cell_of_cells (k := 2) hb).trans rfl, (cell_of_cells (k := 3) hb).trans rfl⟩
  | k + 2, hk => exact absurd hk (by simp)

set_option maxRecDepth 100000 in
set_option maxHeartbeats 4000000 in
theorem specCrBy (ns ls : List Nd) (k : Int) (xs : List Int) (vn vl v : Value) (w : World) (hn : Prs w vn ns) (hl : Prs w vl ls) (hv : Seq w v xs) :
    Calls Try.prog 15 #[.agg #[vn, vl], .int .i64 k, v] w (IntIs (crossV ns ls k xs) w) := by
  have HN := Lib.hid hn
  have HL := Lib.hid hl
  have HV := Lib.hid hv
  have hlen := hl.len
  have hlenN := hn.len
  obtain ⟨A, c, rfl⟩ := prs_form2 hn
  obtain ⟨A2, c2, rfl⟩ := prs_form2 hl
  obtain ⟨A3, c3, rfl⟩ := seq_form2 hv
  clear hn hl hv
  have H0 := Lib.hid (held_pair w (.slice A ns.length c) (.slice A2 ls.length c2) 32)
  have HR := Lib.hid (show crossV ns ls k xs = if (winB ns ls && barB xs && idxB ls.length k) = true then ((crossL ns ls k.toNat xs).length : Int) else -1 from rfl)
  have HW := Lib.hid (fun w h1 h2 => specWin ns ls (.slice A ns.length c) (.slice A2 ls.length c2) w h1 h2)
  have HBR := Lib.hid (fun w h => specBars xs (.slice A3 xs.length c3) w h)
  have HII := Lib.hid (fun w => idxB_in ls.length k ▸ specIn k 0 ((ls.length : Int) - 1) w)
  cases hw : winB ns ls
  · rw [hw] at HW
    replace HR := Lib.hid (show crossV ns ls k xs = -1 from by rw [HR.out, hw]; rfl)
    generalize crossV ns ls k xs = r at *
    go_enter Try.func15, Try.ntmps15
    obtain ⟨x0, x1, _⟩ := H0.out.1
    go_wp2_with fail
    refine (HW.out _ (HN.out.step H0.out.below) (HL.out.step H0.out.below)).mono ?_
    rintro e wH1 ⟨rfl, hb⟩
    have H1 := Lib.hid ((H0.out).step hb); clear hb
    try clear x0 x1
    obtain ⟨x0, x1, _⟩ := H1.out.1
    go_wp2_with fail
    go_ret
    exact ⟨ret_int HR.out.symm, H1.out.below⟩
  cases hb : barB xs
  · rw [hw] at HW
    rw [hb] at HBR
    replace HR := Lib.hid (show crossV ns ls k xs = -1 from by rw [HR.out, hw, hb]; rfl)
    generalize crossV ns ls k xs = r at *
    go_enter Try.func15, Try.ntmps15
    obtain ⟨x0, x1, _⟩ := H0.out.1
    go_wp2_with fail
    refine (HW.out _ (HN.out.step H0.out.below) (HL.out.step H0.out.below)).mono ?_
    rintro e wH1 ⟨rfl, hb⟩
    have H1 := Lib.hid ((H0.out).step hb); clear hb
    try clear x0 x1
    obtain ⟨x0, x1, _⟩ := H1.out.1
    go_wp2_with fail
    refine (HBR.out _ (HV.out.step H1.out.below)).mono ?_
    rintro e wH2 ⟨rfl, hb⟩
    have H2 := Lib.hid ((H1.out).step hb); clear hb
    try clear x0 x1
    obtain ⟨x0, x1, _⟩ := H2.out.1
    go_wp2_with fail
    go_ret
    exact ⟨ret_int HR.out.symm, H2.out.below⟩
  cases hk : idxB ls.length k
  · rw [hw] at HW
    rw [hb] at HBR
    rw [hk] at HII
    replace HR := Lib.hid (show crossV ns ls k xs = -1 from by rw [HR.out, hw, hb, hk]; rfl)
    generalize crossV ns ls k xs = r at *
    go_enter Try.func15, Try.ntmps15
    obtain ⟨x0, x1, _⟩ := H0.out.1
    go_wp2_with fail
    refine (HW.out _ (HN.out.step H0.out.below) (HL.out.step H0.out.below)).mono ?_
    rintro e wH1 ⟨rfl, hb⟩
    have H1 := Lib.hid ((H0.out).step hb); clear hb
    try clear x0 x1
    obtain ⟨x0, x1, _⟩ := H1.out.1
    go_wp2_with fail
    refine (HBR.out _ (HV.out.step H1.out.below)).mono ?_
    rintro e wH2 ⟨rfl, hb⟩
    have H2 := Lib.hid ((H1.out).step hb); clear hb
    try clear x0 x1
    obtain ⟨x0, x1, _⟩ := H2.out.1
    go_wp2_with fail
    refine (HII.out _).mono ?_
    rintro e w3 ⟨rfl, rfl⟩
    go_wp2_with fail
    go_ret
    exact ⟨ret_int HR.out.symm, H2.out.below⟩
  · have HKQ := Lib.hid ((idxB_iff _ _).1 hk)
    obtain ⟨q, hq, hql⟩ : ∃ q : Nat, k = q ∧ q < ls.length := ⟨k.toNat, by have := HKQ.out; omega, by have := HKQ.out; omega⟩
    subst hq
    obtain ⟨i, j, e, hi, hj⟩ := lead_ij hw hql
    replace HR := Lib.hid (show crossV ns ls (q : Int) xs = ((crossL ns ls q xs).length : Int) from by rw [HR.out, hw, hb, hk]; rfl)
    have HCL := Lib.hid (show crossL ns ls q xs = betL (min (atN ns i).y (atN ns j).y) (max (atN ns i).y (atN ns j).y) xs xs.length from by unfold crossL; rw [e]; rfl)
    have hfew := ((barB_iff xs).1 hb).few
    rw [hw] at HW
    rw [hb] at HBR
    rw [hk] at HII
    generalize crossV ns ls (q : Int) xs = r at *
    clear hw hb hk
    have p1 : (0 : Int) ≤ q := by omega
    have p2 : (q : Int) < (ls.length : Int) := by omega
    have p3 : (0 : Int) ≤ i := by omega
    have p4 : (i : Int) < (ns.length : Int) := by omega
    have p5 : (0 : Int) ≤ j := by omega
    have p6 : (j : Int) < (ns.length : Int) := by omega
    obtain ⟨bb, o, c', he, hbl, hcs⟩ := prs_at2 HL.out hql
    injection he with he1 he2 he3
    subst he1
    clear he2 he3
    obtain ⟨g0, g1⟩ := hcs q hql
    clear hcs
    obtain ⟨bn, on, c3', he, hbn, hcs⟩ := prs_at2 HN.out hi
    injection he with he1 he2 he3
    subst he1
    clear he2 he3
    obtain ⟨-, g2⟩ := hcs i hi
    obtain ⟨-, g3⟩ := hcs j hj
    clear hcs
    rw [e] at g0 g1
    simp only at g0 g1
    clear e
    have HG := Lib.hid (And.intro g0 (And.intro g1 (And.intro g2 g3)))
    clear g0 g1 g2 g3
    generalize (atN ns i).y = y1 at *
    generalize (atN ns j).y = y2 at *
    have HBB := Lib.hid (And.intro hbl hbn)
    clear hbl hbn
    go_enter Try.func15, Try.ntmps15
    obtain ⟨x0, x1, _⟩ := H0.out.1
    go_wp2_with fail
    refine (HW.out _ (HN.out.step H0.out.below) (HL.out.step H0.out.below)).mono ?_
    rintro e wH1 ⟨rfl, hb⟩
    have H1 := Lib.hid ((H0.out).step hb); clear hb
    try clear x0 x1
    obtain ⟨x0, x1, _⟩ := H1.out.1
    go_wp2_with fail
    refine (HBR.out _ (HV.out.step H1.out.below)).mono ?_
    rintro e wH2 ⟨rfl, hb⟩
    have H2 := Lib.hid ((H1.out).step hb); clear hb
    try clear x0 x1
    obtain ⟨x0, x1, _⟩ := H2.out.1
    go_wp2_with fail
    clear x0 x1
    refine (HII.out _).mono ?_
    rintro e w3 ⟨rfl, rfl⟩
    have H3 := Lib.hid H2.out
    have H4 := Lib.hid (held_plus H3.out (gs := [(bb, o + q * 2, .int .i64 (i : Int)), (bb, o + q * 2 + 1, .int .i64 (j : Int)), (bn, on + i * 2 + 1, .int .i64 y1), (bn, on + j * 2 + 1, .int .i64 y2)])
      ⟨(H3.out.below.cell (p := ⟨bb, _, none⟩) HBB.out.1).trans HG.out.1, (H3.out.below.cell (p := ⟨bb, _, none⟩) HBB.out.1).trans HG.out.2.1, (H3.out.below.cell (p := ⟨bn, _, none⟩) HBB.out.2).trans HG.out.2.2.1, (H3.out.below.cell (p := ⟨bn, _, none⟩) HBB.out.2).trans HG.out.2.2.2, trivial⟩
      ⟨Nat.lt_of_lt_of_le HBB.out.1 H3.out.below.size, Nat.lt_of_lt_of_le HBB.out.1 H3.out.below.size, Nat.lt_of_lt_of_le HBB.out.2 H3.out.below.size, Nat.lt_of_lt_of_le HBB.out.2 H3.out.below.size, trivial⟩)
    obtain ⟨x0, x1, x2, x3, x4, x5, _⟩ := H4.out.1
    go_wp2_with fail
    refine regionD (S := fun W => Held _ W [(w.heap.size, 0, .slice (some ⟨bn, on, none⟩) ns.length c), (w.heap.size, 1, .slice (some ⟨bb, o, none⟩) ls.length c2), (bb, o + q * 2, .int .i64 (i)), (bb, o + q * 2 + 1, .int .i64 (j)), (bn, on + i * 2 + 1, .int .i64 (y1)), (bn, on + j * 2 + 1, .int .i64 (y2))]) (by kernel_rfl) H4.out.drew ?_
    iterate 12 (refine takeT (v := ?_) rfl (by kernel_rfl) (by kernel_rfl) (by kernel_rfl) ?_ ?_; rotate_left; (first | (refine Or.inr ⟨by rfl, ?_⟩; with_reducible rfl) | (refine Or.inl ⟨by rfl, fun W hS => detRes_value (w' := W) ?_ hS⟩; obtain ⟨x0, x1, x2, x3, x4, x5, _⟩ := hS.1; go_simp; first | done | with_reducible rfl) | fail); (simp only [Act.put, List.setIfInBounds_toArray, List.set_cons_zero, List.set_cons_succ]))
    refine doneD (by kernel_rfl) fun wH5 HS => ?_
    have H5 := Lib.hid HS; clear HS
    try clear x0 x1 x2 x3 x4 x5
    obtain ⟨x0, x1, x2, x3, x4, x5, _⟩ := H5.out.1
    go_wp2_with fail
    refine regionD (S := fun W => Held _ W [(w.heap.size, 0, .slice (some ⟨bn, on, none⟩) ns.length c), (w.heap.size, 1, .slice (some ⟨bb, o, none⟩) ls.length c2), (bb, o + q * 2, .int .i64 (i)), (bb, o + q * 2 + 1, .int .i64 (j)), (bn, on + i * 2 + 1, .int .i64 (y1)), (bn, on + j * 2 + 1, .int .i64 (y2))]) (by kernel_rfl) H5.out.drew ?_
    iterate 12 (refine takeT (v := ?_) rfl (by kernel_rfl) (by kernel_rfl) (by kernel_rfl) ?_ ?_; rotate_left; (first | (refine Or.inr ⟨by rfl, ?_⟩; with_reducible rfl) | (refine Or.inl ⟨by rfl, fun W hS => detRes_value (w' := W) ?_ hS⟩; obtain ⟨x0, x1, x2, x3, x4, x5, _⟩ := hS.1; go_simp; first | done | with_reducible rfl) | fail); (simp only [Act.put, List.setIfInBounds_toArray, List.set_cons_zero, List.set_cons_succ]))
    refine doneD (by kernel_rfl) fun wH7 HS => ?_
    have H7 := Lib.hid HS; clear HS
    try clear x0 x1 x2 x3 x4 x5
    obtain ⟨x0, x1, x2, x3, x4, x5, _⟩ := H7.out.1
    go_wp2_with fail
    rcases Int.lt_trichotomy y1 y2 with hy | hy | hy
    · have HX := Lib.hid (show crossL ns ls q xs = betL (y1) (y2) xs xs.length from by rw [HCL.out]; congr 1 <;> omega)
      replace HR := Lib.hid (show r = ((betL (y1) (y2) xs xs.length).length : Int) from by rw [HR.out, HX.out])
      have HU := Lib.hid (betL_succ (y1) (y2) xs)
      have HZ := Lib.hid (show (betL (y1) (y2) xs 0).length = 0 from rfl)
      have HBL := Lib.hid (betL_len (y1) (y2) xs)
      have HIN := Lib.hid (fun z w => specIn z (y1) (y2) w)
      generalize betL (y1) (y2) xs = X at *
      go_wp2_with fail
      clear x0 x1 x2 x3 x4 x5
      go_loopw [9, 10] (fun u i wr => ∃ m : Nat, m ≤ xs.length ∧ i = .int .i64 m ∧ u = .int .i64 ((X m).length : Nat) ∧ Held w wr []) (fun _ i _ => xs.length - (intOf i).toNat)
      case atStart => exact ⟨0, Nat.zero_le _, rfl, by rw [HZ.out]; rfl, H7.out.only (fun _ => trivial) (fun _ => trivial)⟩
      case round =>
        obtain ⟨m, hm, rfl, rfl, hh⟩ := hrel
        have H8 := Lib.hid hh; clear hh
        by_cases hlt : m < xs.length
        · obtain ⟨A6', c6', e6, -, -, hcs⟩ := (HV.out.step H8.out.below).form
          simp only [Value.slice.injEq] at e6
          obtain ⟨rfl, -, -⟩ := e6
          obtain ⟨bb8, oo8, rfl, -, k0⟩ := hcs m hlt
          clear hcs
          have HUM := Lib.hid (HU.out m)
          have hln := HBL.out m
          have s1 : (0 : Int) ≤ m := by omega
          have s2 : (m : Int) < (xs.length : Int) := by omega
          have HIM := Lib.hid (fun w => HIN.out (atZ xs m) w)
          generalize inB (atZ xs m) (y1) (y2) = d at *
          generalize atZ xs m = z at *
          cases d
          · replace HUM := Lib.hid (show (X (m + 1)).length = (X m).length from by rw [HUM.out]; rfl)
            go_wp2_with fail
            refine (HIM.out _).mono ?_
            rintro e w9 ⟨rfl, rfl⟩
            have H9 := Lib.hid H8.out
            go_wp2_with fail
            exact ⟨⟨m + 1, by omega, by go_num, by rw [HUM.out], H9.out⟩, by simp [intOf]; omega⟩
          · replace HUM := Lib.hid (show (X (m + 1)).length = (X m).length + 1 from by rw [HUM.out]; simp)
            go_wp2_with fail
            refine (HIM.out _).mono ?_
            rintro e w9 ⟨rfl, rfl⟩
            have H9 := Lib.hid H8.out
            go_wp2_with fail
            exact ⟨⟨m + 1, by omega, by go_num, by rw [HUM.out]; go_num, H9.out⟩, by simp [intOf]; omega⟩
        · obtain rfl : m = xs.length := by omega
          go_wp2_with fail
          go_ret
          exact ⟨ret_int (by rw [HR.out]), H8.out.below⟩
    · subst hy
      have HX := Lib.hid (show crossL ns ls q xs = betL (y1) (y1) xs xs.length from by rw [HCL.out]; congr 1 <;> omega)
      replace HR := Lib.hid (show r = ((betL (y1) (y1) xs xs.length).length : Int) from by rw [HR.out, HX.out])
      have HU := Lib.hid (betL_succ (y1) (y1) xs)
      have HZ := Lib.hid (show (betL (y1) (y1) xs 0).length = 0 from rfl)
      have HBL := Lib.hid (betL_len (y1) (y1) xs)
      have HIN := Lib.hid (fun z w => specIn z (y1) (y1) w)
      generalize betL (y1) (y1) xs = X at *
      go_wp2_with fail
      clear x0 x1 x2 x3 x4 x5
      go_loopw [9, 10] (fun u i wr => ∃ m : Nat, m ≤ xs.length ∧ i = .int .i64 m ∧ u = .int .i64 ((X m).length : Nat) ∧ Held w wr []) (fun _ i _ => xs.length - (intOf i).toNat)
      case atStart => exact ⟨0, Nat.zero_le _, rfl, by rw [HZ.out]; rfl, H7.out.only (fun _ => trivial) (fun _ => trivial)⟩
      case round =>
        obtain ⟨m, hm, rfl, rfl, hh⟩ := hrel
        have H8 := Lib.hid hh; clear hh
        by_cases hlt : m < xs.length
        · obtain ⟨A6', c6', e6, -, -, hcs⟩ := (HV.out.step H8.out.below).form
          simp only [Value.slice.injEq] at e6
          obtain ⟨rfl, -, -⟩ := e6
          obtain ⟨bb8, oo8, rfl, -, k0⟩ := hcs m hlt
          clear hcs
          have HUM := Lib.hid (HU.out m)
          have hln := HBL.out m
          have s1 : (0 : Int) ≤ m := by omega
          have s2 : (m : Int) < (xs.length : Int) := by omega
          have HIM := Lib.hid (fun w => HIN.out (atZ xs m) w)
          generalize inB (atZ xs m) (y1) (y1) = d at *
          generalize atZ xs m = z at *
          cases d
          · replace HUM := Lib.hid (show (X (m + 1)).length = (X m).length from by rw [HUM.out]; rfl)
            go_wp2_with fail
            refine (HIM.out _).mono ?_
            rintro e w9 ⟨rfl, rfl⟩
            have H9 := Lib.hid H8.out
            go_wp2_with fail
            exact ⟨⟨m + 1, by omega, by go_num, by rw [HUM.out], H9.out⟩, by simp [intOf]; omega⟩
          · replace HUM := Lib.hid (show (X (m + 1)).length = (X m).length + 1 from by rw [HUM.out]; simp)
            go_wp2_with fail
            refine (HIM.out _).mono ?_
            rintro e w9 ⟨rfl, rfl⟩
            have H9 := Lib.hid H8.out
            go_wp2_with fail
            exact ⟨⟨m + 1, by omega, by go_num, by rw [HUM.out]; go_num, H9.out⟩, by simp [intOf]; omega⟩
        · obtain rfl : m = xs.length := by omega
          go_wp2_with fail
          go_ret
          exact ⟨ret_int (by rw [HR.out]), H8.out.below⟩
    · have HX := Lib.hid (show crossL ns ls q xs = betL (y2) (y1) xs xs.length from by rw [HCL.out]; congr 1 <;> omega)
      replace HR := Lib.hid (show r = ((betL (y2) (y1) xs xs.length).length : Int) from by rw [HR.out, HX.out])
      have HU := Lib.hid (betL_succ (y2) (y1) xs)
      have HZ := Lib.hid (show (betL (y2) (y1) xs 0).length = 0 from rfl)
      have HBL := Lib.hid (betL_len (y2) (y1) xs)
      have HIN := Lib.hid (fun z w => specIn z (y2) (y1) w)
      generalize betL (y2) (y1) xs = X at *
      go_wp2_with fail
      clear x0 x1 x2 x3 x4 x5
      go_loopw [9, 10] (fun u i wr => ∃ m : Nat, m ≤ xs.length ∧ i = .int .i64 m ∧ u = .int .i64 ((X m).length : Nat) ∧ Held w wr []) (fun _ i _ => xs.length - (intOf i).toNat)
      case atStart => exact ⟨0, Nat.zero_le _, rfl, by rw [HZ.out]; rfl, H7.out.only (fun _ => trivial) (fun _ => trivial)⟩
      case round =>
        obtain ⟨m, hm, rfl, rfl, hh⟩ := hrel
        have H8 := Lib.hid hh; clear hh
        by_cases hlt : m < xs.length
        · obtain ⟨A6', c6', e6, -, -, hcs⟩ := (HV.out.step H8.out.below).form
          simp only [Value.slice.injEq] at e6
          obtain ⟨rfl, -, -⟩ := e6
          obtain ⟨bb8, oo8, rfl, -, k0⟩ := hcs m hlt
          clear hcs
          have HUM := Lib.hid (HU.out m)
          have hln := HBL.out m
          have s1 : (0 : Int) ≤ m := by omega
          have s2 : (m : Int) < (xs.length : Int) := by omega
          have HIM := Lib.hid (fun w => HIN.out (atZ xs m) w)
          generalize inB (atZ xs m) (y2) (y1) = d at *
          generalize atZ xs m = z at *
          cases d
          · replace HUM := Lib.hid (show (X (m + 1)).length = (X m).length from by rw [HUM.out]; rfl)
            go_wp2_with fail
            refine (HIM.out _).mono ?_
            rintro e w9 ⟨rfl, rfl⟩
            have H9 := Lib.hid H8.out
            go_wp2_with fail
            exact ⟨⟨m + 1, by omega, by go_num, by rw [HUM.out], H9.out⟩, by simp [intOf]; omega⟩
          · replace HUM := Lib.hid (show (X (m + 1)).length = (X m).length + 1 from by rw [HUM.out]; simp)
            go_wp2_with fail
            refine (HIM.out _).mono ?_
            rintro e w9 ⟨rfl, rfl⟩
            have H9 := Lib.hid H8.out
            go_wp2_with fail
            exact ⟨⟨m + 1, by omega, by go_num, by rw [HUM.out]; go_num, H9.out⟩, by simp [intOf]; omega⟩
        · obtain rfl : m = xs.length := by omega
          go_wp2_with fail
          go_ret
          exact ⟨ret_int (by rw [HR.out]), H8.out.below⟩

set_option maxRecDepth 100000 in
set_option maxHeartbeats 4000000 in
theorem implCrBy (ns ls : List Nd) (k : Int) (xs : List Int) (vn vl v : Value) (w : World) (hn : Prs w vn ns) (hl : Prs w vl ls) (hv : Seq w v xs) :
    Calls Try.prog 18 #[.agg #[vn, vl], .int .i64 k, v] w (IntIs (crossV ns ls k xs) w) := by
  have HN := Lib.hid hn
  have HL := Lib.hid hl
  have HV := Lib.hid hv
  have hlen := hl.len
  have hlenN := hn.len
  obtain ⟨A, c, rfl⟩ := prs_form2 hn
  obtain ⟨A2, c2, rfl⟩ := prs_form2 hl
  obtain ⟨A3, c3, rfl⟩ := seq_form2 hv
  clear hn hl hv
  have H0 := Lib.hid (held_pair w (.slice A ns.length c) (.slice A2 ls.length c2) 32)
  have HR := Lib.hid (show crossV ns ls k xs = if (winB ns ls && barB xs && idxB ls.length k) = true then ((crossL ns ls k.toNat xs).length : Int) else -1 from rfl)
  have HW := Lib.hid (fun w h1 h2 => implHasLead ns ls (.slice A ns.length c) (.slice A2 ls.length c2) k w h1 h2)
  have HBR := Lib.hid (fun w h => implBars xs (.slice A3 xs.length c3) w h)
  cases hh : hasLB ns ls k
  · rw [hh] at HW
    replace HR := Lib.hid (show crossV ns ls k xs = -1 from by
      rw [HR.out]
      unfold hasLB at hh
      cases h1 : winB ns ls
      · rfl
      · rw [h1, Bool.true_and] at hh
        rw [hh, Bool.and_false]
        rfl)
    generalize crossV ns ls k xs = r at *
    go_enter Try.func18, Try.ntmps18
    obtain ⟨x0, x1, _⟩ := H0.out.1
    go_wp2_with fail
    refine (HW.out _ (HN.out.step H0.out.below) (HL.out.step H0.out.below)).mono ?_
    rintro e wH1 ⟨rfl, hb⟩
    have H1 := Lib.hid ((H0.out).step hb); clear hb
    try clear x0 x1
    obtain ⟨x0, x1, _⟩ := H1.out.1
    go_wp2_with fail
    go_ret
    exact ⟨ret_int HR.out.symm, H1.out.below⟩
  cases hb : barB xs
  · rw [hh] at HW
    rw [hb] at HBR
    replace HR := Lib.hid (show crossV ns ls k xs = -1 from by rw [HR.out, hb, Bool.and_false]; rfl)
    generalize crossV ns ls k xs = r at *
    go_enter Try.func18, Try.ntmps18
    obtain ⟨x0, x1, _⟩ := H0.out.1
    go_wp2_with fail
    refine (HW.out _ (HN.out.step H0.out.below) (HL.out.step H0.out.below)).mono ?_
    rintro e wH1 ⟨rfl, hb⟩
    have H1 := Lib.hid ((H0.out).step hb); clear hb
    try clear x0 x1
    obtain ⟨x0, x1, _⟩ := H1.out.1
    go_wp2_with fail
    refine (HBR.out _ (HV.out.step H1.out.below)).mono ?_
    rintro e wH2 ⟨rfl, hb⟩
    have H2 := Lib.hid ((H1.out).step hb); clear hb
    try clear x0 x1
    obtain ⟨x0, x1, _⟩ := H2.out.1
    go_wp2_with fail
    go_ret
    exact ⟨ret_int HR.out.symm, H2.out.below⟩
  · rw [hh] at HW
    rw [hb] at HBR
    have hwk := hh
    unfold hasLB at hwk
    rw [Bool.and_eq_true] at hwk
    obtain ⟨hw, hk⟩ := hwk
    have HKQ := Lib.hid ((idxB_iff _ _).1 hk)
    obtain ⟨q, hq, hql⟩ : ∃ q : Nat, k = q ∧ q < ls.length := ⟨k.toNat, by have := HKQ.out; omega, by have := HKQ.out; omega⟩
    subst hq
    obtain ⟨i, j, e, hi, hj⟩ := lead_ij hw hql
    replace HR := Lib.hid (show crossV ns ls (q : Int) xs = ((crossL ns ls q xs).length : Int) from by rw [HR.out, hw, hb, hk]; rfl)
    have HCL := Lib.hid (show crossL ns ls q xs = betL (min (atN ns i).y (atN ns j).y) (max (atN ns i).y (atN ns j).y) xs xs.length from by unfold crossL; rw [e]; rfl)
    have hfew := ((barB_iff xs).1 hb).few
    clear hh hw hb hk
    generalize crossV ns ls (q : Int) xs = r at *
    have p1 : (0 : Int) ≤ q := by omega
    have p2 : (q : Int) < (ls.length : Int) := by omega
    have HE := Lib.hid (fun w hv => implEnds2 ns (.slice A ns.length c) i j w hv hi hj)
    unfold EndsIs Nd.val at HE
    obtain ⟨bb, o, c', he, hbl, hcs⟩ := prs_at2 HL.out hql
    injection he with he1 he2 he3
    subst he1
    clear he2 he3
    obtain ⟨g0, g1⟩ := hcs q hql
    clear hcs
    rw [e] at g0 g1
    simp only at g0 g1
    clear e
    have HG := Lib.hid (And.intro g0 g1)
    clear g0 g1
    generalize (atN ns i).x = x1' at *
    generalize (atN ns j).x = x2' at *
    generalize (atN ns i).y = y1 at *
    generalize (atN ns j).y = y2 at *
    have HHT := Lib.hid (fun v W (h : Prs W v [⟨x1', y1⟩, ⟨x2', y2⟩]) => (show Calls Try.prog 58 #[v] W (TwoIs (min y1 y2) (max y1 y2) W) from by
      have := implHeights [⟨x1', y1⟩, ⟨x2', y2⟩] v W h (by simp)
      have e1 : lowN [⟨x1', y1⟩, ⟨x2', y2⟩] 2 = min y1 y2 := by simp [lowN, atN] <;> omega
      have e2 : highN [⟨x1', y1⟩, ⟨x2', y2⟩] 2 = max y1 y2 := by simp [highN, atN] <;> omega
      simp only [List.length_cons, List.length_nil, Nat.zero_add, Nat.reduceAdd] at this
      rw [e1, e2] at this
      exact this))
    unfold TwoIs at HHT
    have HBT := Lib.hid (fun w h => implBetw xs (.slice A3 xs.length c3) (min y1 y2) (max y1 y2) w h (by omega))
    unfold IntsSome at HBT
    replace HR := Lib.hid (show r = ((betL (min y1 y2) (max y1 y2) xs xs.length).length : Int) from by rw [HR.out, HCL.out])
    have hbl9 := betL_len (min y1 y2) (max y1 y2) xs xs.length
    clear HCL HKQ
    generalize betL (min y1 y2) (max y1 y2) xs xs.length = X at *
    generalize min y1 y2 = lo at *
    generalize max y1 y2 = hi9 at *
    have HD := Lib.hid (drawingOf_any A (some ⟨bb, o, none⟩) ns.length c ls.length c2)
    unfold ValIs at HD
    have hfd := fieldLLc (.slice A ns.length c) (.slice (some ⟨bb, o, none⟩) ls.length c2)
    have HBB := Lib.hid hbl
    clear hbl
    go_enter Try.func18, Try.ntmps18
    obtain ⟨x0, x1, _⟩ := H0.out.1
    go_wp2_with fail
    refine (HW.out _ (HN.out.step H0.out.below) (HL.out.step H0.out.below)).mono ?_
    rintro e wH1 ⟨rfl, hb⟩
    have H1 := Lib.hid ((H0.out).step hb); clear hb
    try clear x0 x1
    obtain ⟨x0, x1, _⟩ := H1.out.1
    go_wp2_with fail
    clear x0 x1
    refine (HBR.out _ (HV.out.step H1.out.below)).mono ?_
    rintro e w3 ⟨rfl, hb⟩
    have H3 := Lib.hid (H1.out.step hb); clear hb
    have H4 := Lib.hid (held_plus H3.out (gs := [(bb, o + q * 2, .int .i64 (i : Int)), (bb, o + q * 2 + 1, .int .i64 (j : Int))])
      ⟨(H3.out.below.cell (p := ⟨bb, _, none⟩) HBB.out).trans HG.out.1, (H3.out.below.cell (p := ⟨bb, _, none⟩) HBB.out).trans HG.out.2, trivial⟩
      ⟨Nat.lt_of_lt_of_le HBB.out H3.out.below.size, Nat.lt_of_lt_of_le HBB.out H3.out.below.size, trivial⟩)
    obtain ⟨x0, x1, x2, x3, _⟩ := H4.out.1
    go_wp2_with fail
    refine regionW (fun W => Held _ W [(w.heap.size, 0, .slice A ns.length c), (w.heap.size, 1, .slice (some ⟨bb, o, none⟩) ls.length c2), (bb, o + q * 2, .int .i64 (i)), (bb, o + q * 2 + 1, .int .i64 (j))]) (by kernel_rfl) H4.out.drew ?_
    refine takeW (i := 0) (v := ?_) (Stable.held _ _) rfl (by kernel_rfl) (by kernel_rfl) (by kernel_rfl) (fun _ _ _ h => h) ?_ ?_
    rotate_left
    · first | (refine Or.inl ⟨by rfl, fun W hS => detR_value (w' := W) ?_ (Below.refl _ _)⟩; have hH := hS; obtain ⟨x0, x1, x2, x3, _⟩ := hH.1; go_simp; first | done | with_reducible rfl) | fail
    simp only [Act.put, List.setIfInBounds_toArray, List.set_cons_zero, List.set_cons_succ]
    refine takeW (i := 1) (v := ?_) (Stable.held _ _) rfl (by kernel_rfl) (by kernel_rfl) (by kernel_rfl) (fun _ _ _ h => h) ?_ ?_
    rotate_left
    · first | (refine Or.inl ⟨by rfl, fun W hS => ?_⟩; have hH := hS; refine detR_call (w' := W) (f := ?_) (args := ?_) ?_ ?_; rotate_left 2; (go_simp; (refine ⟨?_, ?_⟩ <;> with_reducible rfl)); (first | (with_reducible refine (HD.out _).mono ?_) | fail); (first | (rintro e wn ⟨rfl, hb⟩; refine ⟨?_, hb⟩; with_reducible rfl) | (rintro e wn ⟨rfl, rfl⟩; refine ⟨?_, Below.refl _ _⟩; with_reducible rfl) | fail)) | fail
    simp only [Act.put, List.setIfInBounds_toArray, List.set_cons_zero, List.set_cons_succ]
    refine takeW (i := 2) (v := ?_) (Stable.held _ _) rfl (by kernel_rfl) (by kernel_rfl) (by kernel_rfl) (fun _ _ _ h => h) ?_ ?_
    rotate_left
    · first | (refine Or.inl ⟨by rfl, fun W hS => detR_value (w' := W) ?_ (Below.refl _ _)⟩; have hH := hS; obtain ⟨x0, x1, x2, x3, _⟩ := hH.1; go_simp; first | done | with_reducible rfl) | fail
    simp only [Act.put, List.setIfInBounds_toArray, List.set_cons_zero, List.set_cons_succ]
    refine takeW (i := 3) (v := ?_) (Stable.held _ _) rfl (by kernel_rfl) (by kernel_rfl) (by kernel_rfl) (fun _ _ _ h => h) ?_ ?_
    rotate_left
    · first | (refine Or.inl ⟨by rfl, fun W hS => detR_value (w' := W) ?_ (Below.refl _ _)⟩; have hH := hS; obtain ⟨x0, x1, x2, x3, _⟩ := hH.1; go_simp; first | done | with_reducible rfl) | fail
    simp only [Act.put, List.setIfInBounds_toArray, List.set_cons_zero, List.set_cons_succ]
    refine takeW (i := 4) (v := ?_) (Stable.held _ _) rfl (by kernel_rfl) (by kernel_rfl) (by kernel_rfl) (fun _ _ _ h => h) ?_ ?_
    rotate_left
    · first | (refine Or.inl ⟨by rfl, fun W hS => detR_value (w' := W) ?_ (Below.refl _ _)⟩; have hH := hS; obtain ⟨x0, x1, x2, x3, _⟩ := hH.1; go_simp; first | done | with_reducible rfl) | fail
    simp only [Act.put, List.setIfInBounds_toArray, List.set_cons_zero, List.set_cons_succ]
    refine takeW (i := 5) (v := ?_) (Stable.held _ _) rfl (by kernel_rfl) (by kernel_rfl) (by kernel_rfl) (fun _ _ _ h => h) ?_ ?_
    rotate_left
    · first | (refine Or.inl ⟨by rfl, fun W hS => detR_value (w' := W) ?_ (Below.refl _ _)⟩; have hH := hS; obtain ⟨x0, x1, x2, x3, _⟩ := hH.1; go_simp; first | done | with_reducible rfl) | fail
    simp only [Act.put, List.setIfInBounds_toArray, List.set_cons_zero, List.set_cons_succ]
    refine takeW (i := 6) (v := ?_) (Stable.held _ _) rfl (by kernel_rfl) (by kernel_rfl) (by kernel_rfl) (fun _ _ _ h => h) ?_ ?_
    rotate_left
    · first | (refine Or.inl ⟨by rfl, fun W hS => detR_value (w' := W) ?_ (Below.refl _ _)⟩; have hH := hS; obtain ⟨x0, x1, x2, x3, _⟩ := hH.1; go_simp; first | done | with_reducible rfl) | fail
    simp only [Act.put, List.setIfInBounds_toArray, List.set_cons_zero, List.set_cons_succ]
    refine takeW (i := 7) (v := ?_) (Stable.held _ _) rfl (by kernel_rfl) (by kernel_rfl) (by kernel_rfl) (fun _ _ _ h => h) ?_ ?_
    rotate_left
    · first | (refine Or.inl ⟨by rfl, fun W hS => detR_value (w' := W) ?_ (Below.refl _ _)⟩; have hH := hS; obtain ⟨x0, x1, x2, x3, _⟩ := hH.1; go_simp; first | done | with_reducible rfl) | fail
    simp only [Act.put, List.setIfInBounds_toArray, List.set_cons_zero, List.set_cons_succ]
    refine takeW (i := 8) (v := ?_) (Stable.held _ _) rfl (by kernel_rfl) (by kernel_rfl) (by kernel_rfl) (fun _ _ _ h => h) ?_ ?_
    rotate_left
    · first | (refine Or.inl ⟨by rfl, fun W hS => ?_⟩; have hH := hS; refine detR_call (w' := W) (f := ?_) (args := ?_) ?_ ?_; rotate_left 2; (go_simp; (refine ⟨?_, ?_⟩ <;> with_reducible rfl)); (first | (with_reducible refine (HE.out _ (HN.out.step hH.below)).mono ?_) | fail); (first | (rintro e wn ⟨rfl, hb⟩; refine ⟨?_, hb⟩; with_reducible rfl) | (rintro e wn ⟨rfl, rfl⟩; refine ⟨?_, Below.refl _ _⟩; with_reducible rfl) | fail)) | fail
    simp only [Act.put, List.setIfInBounds_toArray, List.set_cons_zero, List.set_cons_succ]
    refine takeW (i := 9) (v := ?_) (Stable.held _ _) rfl (by kernel_rfl) (by kernel_rfl) (by kernel_rfl) (fun _ _ _ h => h) ?_ ?_
    rotate_left
    · first | (refine Or.inl ⟨by rfl, fun W hS => detR_value (w' := W) ?_ (Below.refl _ _)⟩; have hH := hS; obtain ⟨x0, x1, x2, x3, _⟩ := hH.1; go_simp; first | done | with_reducible rfl) | fail
    simp only [Act.put, List.setIfInBounds_toArray, List.set_cons_zero, List.set_cons_succ]
    refine takeW (i := 10) (v := ?_) (Stable.held _ _) rfl (by kernel_rfl) (by kernel_rfl) (by kernel_rfl) (fun _ _ _ h => h) ?_ ?_
    rotate_left
    · first | (refine Or.inl ⟨by rfl, fun W hS => detR_value (w' := W) ?_ (Below.refl _ _)⟩; have hH := hS; obtain ⟨x0, x1, x2, x3, _⟩ := hH.1; go_simp; first | done | with_reducible rfl) | fail
    simp only [Act.put, List.setIfInBounds_toArray, List.set_cons_zero, List.set_cons_succ]
    refine freeW (i := 11) (fun v W => Prs W v [⟨x1', y1⟩, ⟨x2', y2⟩]) (Stable.held _ _) (fun v => fun _ _ h hb => h.step hb) rfl (by kernel_rfl) (by rfl) (fun W hS => ?_) (fun v1 => ?_)
    · have hH := hS; exact freeR_twoN (by go_simp; first | done | with_reducible rfl)
    simp only [Act.put, List.setIfInBounds_toArray, List.set_cons_zero, List.set_cons_succ]
    refine takeW (i := 12) (v := ?_) (Stable.and (Stable.held _ _) (fun _ _ h hb => h.step hb)) rfl (by kernel_rfl) (by kernel_rfl) (by kernel_rfl) (fun _ _ _ h => h) ?_ ?_
    rotate_left
    · first | (refine Or.inl ⟨by rfl, fun W hS => ?_⟩; obtain ⟨hH, r1⟩ := hS; refine detR_call (w' := W) (f := ?_) (args := ?_) ?_ ?_; rotate_left 2; (go_simp; (refine ⟨?_, ?_⟩ <;> with_reducible rfl)); (first | (with_reducible refine (HHT.out _ _ r1).mono ?_) | fail); (first | (rintro e wn ⟨rfl, hb⟩; refine ⟨?_, hb⟩; with_reducible rfl) | (rintro e wn ⟨rfl, rfl⟩; refine ⟨?_, Below.refl _ _⟩; with_reducible rfl) | fail)) | fail
    simp only [Act.put, List.setIfInBounds_toArray, List.set_cons_zero, List.set_cons_succ]
    refine takeW (i := 13) (v := ?_) (Stable.and (Stable.held _ _) (fun _ _ h hb => h.step hb)) rfl (by kernel_rfl) (by kernel_rfl) (by kernel_rfl) (fun _ _ _ h => h) ?_ ?_
    rotate_left
    · first | (refine Or.inl ⟨by rfl, fun W hS => detR_value (w' := W) ?_ (Below.refl _ _)⟩; obtain ⟨hH, r1⟩ := hS; obtain ⟨x0, x1, x2, x3, _⟩ := hH.1; go_simp; first | done | with_reducible rfl) | fail
    simp only [Act.put, List.setIfInBounds_toArray, List.set_cons_zero, List.set_cons_succ]
    refine takeW (i := 14) (v := ?_) (Stable.and (Stable.held _ _) (fun _ _ h hb => h.step hb)) rfl (by kernel_rfl) (by kernel_rfl) (by kernel_rfl) (fun _ _ _ h => h) ?_ ?_
    rotate_left
    · first | (refine Or.inl ⟨by rfl, fun W hS => detR_value (w' := W) ?_ (Below.refl _ _)⟩; obtain ⟨hH, r1⟩ := hS; obtain ⟨x0, x1, x2, x3, _⟩ := hH.1; go_simp; first | done | with_reducible rfl) | fail
    simp only [Act.put, List.setIfInBounds_toArray, List.set_cons_zero, List.set_cons_succ]
    refine takeW (i := 15) (v := ?_) (Stable.and (Stable.held _ _) (fun _ _ h hb => h.step hb)) rfl (by kernel_rfl) (by kernel_rfl) (by kernel_rfl) (fun _ _ _ h => h) ?_ ?_
    rotate_left
    · first | (refine Or.inl ⟨by rfl, fun W hS => detR_value (w' := W) ?_ (Below.refl _ _)⟩; obtain ⟨hH, r1⟩ := hS; obtain ⟨x0, x1, x2, x3, _⟩ := hH.1; go_simp; first | done | with_reducible rfl) | fail
    simp only [Act.put, List.setIfInBounds_toArray, List.set_cons_zero, List.set_cons_succ]
    refine takeW (i := 16) (v := ?_) (Stable.and (Stable.held _ _) (fun _ _ h hb => h.step hb)) rfl (by kernel_rfl) (by kernel_rfl) (by kernel_rfl) (fun _ _ _ h => h) ?_ ?_
    rotate_left
    · first | (refine Or.inl ⟨by rfl, fun W hS => detR_value (w' := W) ?_ (Below.refl _ _)⟩; obtain ⟨hH, r1⟩ := hS; obtain ⟨x0, x1, x2, x3, _⟩ := hH.1; go_simp; first | done | with_reducible rfl) | fail
    simp only [Act.put, List.setIfInBounds_toArray, List.set_cons_zero, List.set_cons_succ]
    refine takeW (i := 17) (v := ?_) (Stable.and (Stable.held _ _) (fun _ _ h hb => h.step hb)) rfl (by kernel_rfl) (by kernel_rfl) (by kernel_rfl) (fun _ _ _ h => h) ?_ ?_
    rotate_left
    · first | (refine Or.inl ⟨by rfl, fun W hS => detR_value (w' := W) ?_ (Below.refl _ _)⟩; obtain ⟨hH, r1⟩ := hS; obtain ⟨x0, x1, x2, x3, _⟩ := hH.1; go_simp; first | done | with_reducible rfl) | fail
    simp only [Act.put, List.setIfInBounds_toArray, List.set_cons_zero, List.set_cons_succ]
    refine doneW (by kernel_rfl) fun wH5 HG => ?_
    obtain ⟨hH, r1⟩ := HG
    have H5 := Lib.hid hH; clear hH
    have MH5_1 := Lib.hid r1; clear r1
    try clear x0 x1 x2 x3
    obtain ⟨x0, x1, x2, x3, _⟩ := H5.out.1
    go_wp2_with fail
    refine (HBT.out _ (HV.out.step H5.out.below)).mono ?_
    rintro e w6 ⟨g, cg, rfl, -, hb⟩
    have H6 := Lib.hid (H5.out.step hb); clear hb
    go_wp2_with fail
    go_ret
    exact ⟨ret_int HR.out.symm, H6.out.below⟩
end Go.Proofs.Ytfppnaknnijobaa
