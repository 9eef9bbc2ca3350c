/-
  A lead between two faces of one color, of the program and of the model.
-/
import Derived.Test.YtfckgidilbjokaaGreatClr
namespace Go.Proofs.YtfckgidilbjokaaGreat
open Go.RowKit
set_option linter.unusedVariables false
set_option linter.unusedSimpArgs false

def clashP (ds cs : List Int) (k : Nat) : Bool := (!(atZ ds (2 * k) == atZ ds (2 * k + 1))) && (atZ cs (atZ ds (2 * k)).toNat == atZ cs (atZ ds (2 * k + 1)).toNat)
noncomputable def clashW (ns ls : List Nd) (cs : List Int) : Int := if listB ns ls 0 5 cs = true then firstI (clashP (gA ns ls) cs) (gL ns ls).length else -1
noncomputable def properB (ns ls : List Nd) (cs : List Int) : Bool := listB ns ls 0 5 cs && decide (clashW ns ls cs < 0)
theorem g_face {ns ls : List Nd} {d : Nat} (h : d < (gA ns ls).length) : ∃ q : Nat, atZ (gA ns ls) d = (q : Int) ∧ q < (wF ns ls).length := by
  unfold gA wF at *
  by_cases hh : wholeB ns ls = true
  · rw [if_pos hh] at h ⊢
    rw [if_pos hh]
    rw [atW_len] at h
    exact ⟨_, atW_at h, (atW_face (whole_win hh).1 h).2⟩
  · rw [if_neg hh] at h
    simp at h
theorem listB_parts {ns ls : List Nd} {lo hi : Int} {xs : List Int} (h : listB ns ls lo hi xs = true) : wholeB ns ls = true ∧ xs.length = (wF ns ls).length ∧ inR xs lo hi = true := by
  unfold listB at h
  simpa [Bool.and_eq_true] using h


set_option maxRecDepth 100000 in
set_option maxHeartbeats 2000000 in
theorem implClash (v1 v2 v3 v4 v : Value) (rs : List (List Int)) (ds cs : List Int) (ns ls : List Nd) (B B2 : Nat) (w : World) (hn : Prs w v1 ns) (hl : Prs w v2 ls) (hf : Faces w B v3 rs) (ha : Ints w B2 v4 ds) (hv : Seq w v cs) (hk : ds.length = 2 * ls.length) (hd : ls.length ≤ 20)
    (hq : ∀ d, d < ds.length → ∃ q : Nat, atZ ds d = (q : Int) ∧ q < cs.length) :
    Calls Tryz.prog 61 #[.agg #[v1, v2, v3, v4], v] w (IntIs (firstI (clashP ds cs) ls.length) w) := by
  have HS := Lib.hid (fun k W hb (hk1 : k < ls.length) => implSides v1 v2 v3 v4 rs ds ns ls B B2 k W (hn.step hb) (hl.step hb) (hf.step hb) (ha.step hb) (by omega) (by omega))
  unfold ArrIs at HS
  have HV := Lib.hid hv
  have HQ := Lib.hid hq
  have HK := Lib.hid hk
  obtain ⟨A, c, rfl⟩ := prs_form2 hn
  obtain ⟨A2, c2, rfl⟩ := prs_form2 hl
  obtain ⟨A3, c3, rfl⟩ := faces_form hf
  obtain ⟨A4, c4, rfl⟩ := ints_form ha
  obtain ⟨A5, c5, rfl⟩ := seq_form2 hv
  have H0 := Lib.hid (heldG w (.slice A ns.length c) (.slice A2 ls.length c2) (.slice A3 rs.length c3) (.slice A4 ds.length c4) 72)
  have HP := Lib.hid (fun k => show clashP ds cs k = ((!(atZ ds (2 * k) == atZ ds (2 * k + 1))) && (atZ cs (atZ ds (2 * k)).toNat == atZ cs (atZ ds (2 * k + 1)).toNat)) from rfl)
  clear hn hl hf ha hk hq hv
  generalize clashP ds cs = p at *
  go_enter Tryz.func61, Tryz.ntmps61
  go_wp2_with fail
  go_loopw [11] (fun i wr => ∃ m : Nat, m ≤ ls.length ∧ i = .int .i64 m ∧ (∀ j, j < m → p j = false) ∧ Held w wr [(w.heap.size, 0, .slice A ns.length c), (w.heap.size, 1, .slice A2 ls.length c2), (w.heap.size, 2, .slice A3 rs.length c3), (w.heap.size, 3, .slice A4 ds.length c4)]) (fun i _ => ls.length - (intOf i).toNat)
  case atStart => exact ⟨0, Nat.zero_le _, rfl, fun j h => by omega, H0.out⟩
  case round =>
    clear H0
    obtain ⟨m, hm, rfl, hno, hh⟩ := hrel
    have HNO := Lib.hid hno; clear hno
    have H1 := Lib.hid hh; clear hh
    obtain ⟨x0, x1, x2, x3, _⟩ := H1.out.1
    by_cases hlt : m < ls.length
    · have p1 : (0 : Int) ≤ m := by omega
      have p2 : (m : Int) < (ls.length : Int) := by omega
      have HC := Lib.hid (HS.out m wr H1.out.below hlt)
      have HPM := Lib.hid (HP.out m)
      obtain ⟨q0, hq0, hq0l⟩ := HQ.out (2 * m) (by have := HK.out; omega)
      obtain ⟨q1, hq1, hq1l⟩ := HQ.out (2 * m + 1) (by have := HK.out; omega)
      rw [hq0, hq1, Int.toNat_natCast, Int.toNat_natCast] at HPM
      rw [hq0, hq1] at HC
      clear hq0 hq1
      go_wp2_with fail
      refine HC.out.mono ?_
      rintro e w2 ⟨rfl, hb⟩
      have H2 := Lib.hid (H1.out.step hb); clear hb x0 x1 x2 x3
      have H3 := Lib.hid (H2.out.new2 w2.heap.size rfl [.int .i64 (q0 : Int), .int .i64 (q1 : Int)] 120)
      obtain ⟨A6, c6, e6, -, -, hcs⟩ := (HV.out.step H3.out.below).form
      simp only [Value.slice.injEq] at e6
      obtain ⟨rfl, -, -⟩ := e6
      obtain ⟨bb, o, rfl, hbl, k0⟩ := hcs q0 hq0l
      obtain ⟨bb', o', e7, -, k1⟩ := hcs q1 hq1l
      simp only [Option.some.injEq, Addr.mk.injEq] at e7
      obtain ⟨rfl, rfl, -⟩ := e7
      clear hcs
      generalize atZ cs q0 = y0 at *
      generalize atZ cs q1 = y1 at *
      have p3 : (0 : Int) ≤ q0 := by omega
      have p4 : (q0 : Int) < (cs.length : Int) := by omega
      have p5 : (0 : Int) ≤ q1 := by omega
      have p6 : (q1 : Int) < (cs.length : Int) := by omega
      have H4 := Lib.hid (held_plus H3.out (gs := [(bb, o + q0, .int .i64 y0), (bb, o + q1, .int .i64 y1)]) ⟨k0, k1, trivial⟩ ⟨hbl, hbl, trivial⟩)
      simp only [newFs, List.cons_append, List.nil_append, List.append_nil] at H4
      clear k0 k1 H3
      obtain ⟨b1, hb1⟩ : ∃ b, ((q0 : Int) == (q1 : Int)) = b := ⟨_, rfl⟩
      obtain ⟨b2, hb2⟩ : ∃ b, (y0 == y1) = b := ⟨_, rfl⟩
      rw [hb1, hb2] at HPM
      have hn1 : ((q0 : Int) != (q1 : Int)) = !b1 := by rw [← hb1]; rfl
      obtain ⟨x0, x1, x2, x3, x4, x5, x6, x7, _⟩ := H4.out.1
      cases b1 <;> simp only [Bool.not_true, Bool.not_false] at hn1
      · cases b2
        · go_wp2_with fail
          refine regionD (S := fun W => Held _ W [(w2.heap.size, 0, .int .i64 (q0)), (w2.heap.size, 1, .int .i64 (q1)), (w.heap.size, 0, .slice A ns.length c), (w.heap.size, 1, .slice A2 ls.length c2), (w.heap.size, 2, .slice A3 rs.length c3), (w.heap.size, 3, .slice A4 ds.length c4), (bb, o + q0, .int .i64 (y0)), (bb, o + q1, .int .i64 (y1))]) (by kernel_rfl) H4.out.drew ?_
          iterate 18 (refine takeT (v := ?_) rfl (by kernel_rfl) (by kernel_rfl) (by kernel_rfl) ?_ ?_; rotate_left; (first | (refine Or.inr ⟨by rfl, ?_⟩; with_reducible rfl) | (refine Or.inl ⟨by rfl, fun W hS => detRes_value (w' := W) ?_ hS⟩; obtain ⟨x0, x1, x2, x3, x4, x5, x6, x7, _⟩ := hS.1; go_simp; first | done | with_reducible rfl) | fail); (simp only [Act.put, List.setIfInBounds_toArray, List.set_cons_zero, List.set_cons_succ]))
          refine doneD (by kernel_rfl) fun wH5 HS => ?_
          have H5 := Lib.hid HS; clear HS
          try clear x0 x1 x2 x3 x4 x5 x6 x7
          obtain ⟨x0, x1, x2, x3, x4, x5, x6, x7, _⟩ := H5.out.1
          go_wp2_with fail
          exact ⟨⟨m + 1, by omega, by go_num, fun j hj => by
            by_cases e : j = m
            · rw [e]; exact HPM.out
            · exact HNO.out j (by omega), H5.out.only (fun ⟨_, _, a, b, c, d, _⟩ => ⟨a, b, c, d, trivial⟩) (fun ⟨_, _, a, b, c, d, _⟩ => ⟨a, b, c, d, trivial⟩)⟩, by simp [intOf]; omega⟩
        · go_wp2_with fail
          refine regionD (S := fun W => Held _ W [(w2.heap.size, 0, .int .i64 (q0)), (w2.heap.size, 1, .int .i64 (q1)), (w.heap.size, 0, .slice A ns.length c), (w.heap.size, 1, .slice A2 ls.length c2), (w.heap.size, 2, .slice A3 rs.length c3), (w.heap.size, 3, .slice A4 ds.length c4), (bb, o + q0, .int .i64 (y0)), (bb, o + q1, .int .i64 (y1))]) (by kernel_rfl) H4.out.drew ?_
          iterate 18 (refine takeT (v := ?_) rfl (by kernel_rfl) (by kernel_rfl) (by kernel_rfl) ?_ ?_; rotate_left; (first | (refine Or.inr ⟨by rfl, ?_⟩; with_reducible rfl) | (refine Or.inl ⟨by rfl, fun W hS => detRes_value (w' := W) ?_ hS⟩; obtain ⟨x0, x1, x2, x3, x4, x5, x6, x7, _⟩ := hS.1; go_simp; first | done | with_reducible rfl) | fail); (simp only [Act.put, List.setIfInBounds_toArray, List.set_cons_zero, List.set_cons_succ]))
          refine doneD (by kernel_rfl) fun wH5 HS => ?_
          have H5 := Lib.hid HS; clear HS
          try clear x0 x1 x2 x3 x4 x5 x6 x7
          obtain ⟨x0, x1, x2, x3, x4, x5, x6, x7, _⟩ := H5.out.1
          go_wp2_with fail
          go_ret
          exact ⟨ret_int (firstI_at HNO.out HPM.out ls.length hlt).symm, H5.out.below⟩
      · go_wp2_with fail
        refine regionD (S := fun W => Held _ W [(w2.heap.size, 0, .int .i64 (q0)), (w2.heap.size, 1, .int .i64 (q1)), (w.heap.size, 0, .slice A ns.length c), (w.heap.size, 1, .slice A2 ls.length c2), (w.heap.size, 2, .slice A3 rs.length c3), (w.heap.size, 3, .slice A4 ds.length c4), (bb, o + q0, .int .i64 (y0)), (bb, o + q1, .int .i64 (y1))]) (by kernel_rfl) H4.out.drew ?_
        iterate 18 (refine takeT (v := ?_) rfl (by kernel_rfl) (by kernel_rfl) (by kernel_rfl) ?_ ?_; rotate_left; (first | (refine Or.inr ⟨by rfl, ?_⟩; with_reducible rfl) | (refine Or.inl ⟨by rfl, fun W hS => detRes_value (w' := W) ?_ hS⟩; obtain ⟨x0, x1, x2, x3, x4, x5, x6, x7, _⟩ := hS.1; go_simp; first | done | with_reducible rfl) | fail); (simp only [Act.put, List.setIfInBounds_toArray, List.set_cons_zero, List.set_cons_succ]))
        refine doneD (by kernel_rfl) fun wH5 HS => ?_
        have H5 := Lib.hid HS; clear HS
        try clear x0 x1 x2 x3 x4 x5 x6 x7
        obtain ⟨x0, x1, x2, x3, x4, x5, x6, x7, _⟩ := H5.out.1
        go_wp2_with fail
        exact ⟨⟨m + 1, by omega, by go_num, fun j hj => by
          by_cases e : j = m
          · rw [e]; exact HPM.out
          · exact HNO.out j (by omega), H5.out.only (fun ⟨_, _, a, b, c, d, _⟩ => ⟨a, b, c, d, trivial⟩) (fun ⟨_, _, a, b, c, d, _⟩ => ⟨a, b, c, d, trivial⟩)⟩, by simp [intOf]; omega⟩
    · obtain rfl : m = ls.length := by omega
      go_wp2_with fail
      go_ret
      exact ⟨ret_int (firstI_none _ HNO.out).symm, H1.out.below⟩

set_option maxRecDepth 100000 in
set_option maxHeartbeats 2000000 in
theorem implClashOf (ns ls : List Nd) (cs : List Int) (vn vl v : Value) (w : World) (hn : Prs w vn ns) (hl : Prs w vl ls) (hv : Seq w v cs) :
    Calls Tryz.prog 23 #[.agg #[vn, vl], v] w (IntIs (clashW ns ls cs) w) := by
  have HT := Lib.hid (fun (A1 A2 A3 A4 : Option Addr) (n1 c1 n2 c2 c3 n4 c4 : Nat) W hb => implIsColors A1 A2 A3 A4 n1 c1 n2 c2 (wF ns ls).length c3 n4 c4 cs v W (hv.step hb))
  unfold BoolIs at HT
  have HCL := Lib.hid (fun (hlist : listB ns ls 0 5 cs = true) v1 v2 v3 v4 B B2 W h1 h2 h3 h4 hb => implClash v1 v2 v3 v4 v (wF ns ls) (gA ns ls) cs (gN ns ls) (gL ns ls) B B2 W h1 h2 h3 h4 (hv.step hb) (g_len ns ls).1 (g_len ns ls).2 (fun d hd => by
    obtain ⟨q, h, hlt⟩ := g_face hd
    exact ⟨q, h, by rw [(listB_parts hlist).2.1]; exact hlt⟩))
  have HCW := Lib.hid (fun (hlist : listB ns ls 0 5 cs = true) => show clashW ns ls cs = firstI (clashP (gA ns ls) cs) (gL ns ls).length from if_pos hlist)
  unfold IntIs at HCL
  have HR := Lib.hid (show listB ns ls 0 5 cs = (wholeB ns ls && (decide (cs.length = (wF ns ls).length) && inR cs 0 5)) from rfl)
  have HNO := Lib.hid (fun (h : listB ns ls 0 5 cs = false) => show clashW ns ls cs = -1 from if_neg (by rw [h]; simp))
  have HN := Lib.hid hn
  have HL := Lib.hid hl
  have HGL := Lib.hid (fun w h1 h2 => implGlass ns ls vn vl w h1 h2)
  unfold GlassNew at HGL
  have H0 := Lib.hid (held_pair w vn vl 32)
  obtain ⟨A, c, rfl⟩ := prs_form2 hn
  obtain ⟨A2, c2, rfl⟩ := prs_form2 hl
  clear hn hl
  obtain ⟨A3, c3, rfl⟩ := seq_form2 hv
  clear hv
  generalize clashW ns ls cs = res at *
  generalize listB ns ls 0 5 cs = lb at *
  generalize (decide (cs.length = (wF ns ls).length) && inR cs 0 5) = b at *
  generalize firstI (clashP (gA ns ls) cs) (gL ns ls).length = fr at *
  generalize gN ns ls = ns' at *
  generalize gL ns ls = ls' at *
  generalize gA ns ls = ds at *
  generalize wF ns ls = rs at *
  generalize wholeB ns ls = ok at *
  go_enter Tryz.func23, Tryz.ntmps23
  cases ok
  · have HX := Lib.hid (HNO.out (by rw [HR.out]; rfl))
    go_wp2_with fail
    refine (HGL.out _ (HN.out.step H0.out.below) (HL.out.step H0.out.below)).mono ?_
    rintro e w1 ⟨v1, v2, v3, v4, rfl, g1, g2, g3, g4, hb⟩
    have H1 := Lib.hid (H0.out.step hb)
    have G0 := Lib.hid (heldG w1 v1 v2 v3 v4 72)
    have B1 := Lib.hid (H1.out.below.trans (G0.out.below.mono H1.out.below.size))
    have G1 := Lib.hid (g1.step G0.out.below)
    have G2 := Lib.hid (g2.step G0.out.below)
    have G3 := Lib.hid (g3.step G0.out.below)
    have G4 := Lib.hid (g4.step G0.out.below)
    obtain ⟨A5, c5, rfl⟩ := prs_form2 g1
    obtain ⟨A6, c6, rfl⟩ := prs_form2 g2
    obtain ⟨A7, c7, rfl⟩ := faces_form g3
    obtain ⟨A8, c8, rfl⟩ := ints_form g4
    clear hb g1 g2 g3 g4
    obtain ⟨x0, x1, _⟩ := H1.out.1
    obtain ⟨y0, y1, y2, y3, _⟩ := G0.out.1
    go_wp2_with fail
    go_ret
    exact ⟨ret_int HX.out.symm, B1.out⟩
  · cases b
    · have HX := Lib.hid (HNO.out (by rw [HR.out]; rfl))
      go_wp2_with fail
      refine (HGL.out _ (HN.out.step H0.out.below) (HL.out.step H0.out.below)).mono ?_
      rintro e w1 ⟨v1, v2, v3, v4, rfl, g1, g2, g3, g4, hb⟩
      have H1 := Lib.hid (H0.out.step hb)
      have G0 := Lib.hid (heldG w1 v1 v2 v3 v4 72)
      have B1 := Lib.hid (H1.out.below.trans (G0.out.below.mono H1.out.below.size))
      have G1 := Lib.hid (g1.step G0.out.below)
      have G2 := Lib.hid (g2.step G0.out.below)
      have G3 := Lib.hid (g3.step G0.out.below)
      have G4 := Lib.hid (g4.step G0.out.below)
      obtain ⟨A5, c5, rfl⟩ := prs_form2 g1
      obtain ⟨A6, c6, rfl⟩ := prs_form2 g2
      obtain ⟨A7, c7, rfl⟩ := faces_form g3
      obtain ⟨A8, c8, rfl⟩ := ints_form g4
      clear hb g1 g2 g3 g4
      obtain ⟨x0, x1, _⟩ := H1.out.1
      obtain ⟨y0, y1, y2, y3, _⟩ := G0.out.1
      go_wp2_with fail
      refine (HT.out _ _ _ _ _ _ _ _ _ _ _ _ B1.out).mono ?_
      rintro e w2 ⟨rfl, hb⟩
      have B2 := Lib.hid (B1.out.trans (hb.mono B1.out.size)); clear hb
      go_wp2_with fail
      go_ret
      exact ⟨ret_int HX.out.symm, B2.out⟩
    · have HLB := Lib.hid (show lb = true by rw [HR.out]; rfl)
      replace HCL := Lib.hid (HCL.out HLB.out)
      have HX := Lib.hid (HCW.out HLB.out)
      go_wp2_with fail
      refine (HGL.out _ (HN.out.step H0.out.below) (HL.out.step H0.out.below)).mono ?_
      rintro e w1 ⟨v1, v2, v3, v4, rfl, g1, g2, g3, g4, hb⟩
      have H1 := Lib.hid (H0.out.step hb)
      have G0 := Lib.hid (heldG w1 v1 v2 v3 v4 72)
      have B1 := Lib.hid (H1.out.below.trans (G0.out.below.mono H1.out.below.size))
      have G1 := Lib.hid (g1.step G0.out.below)
      have G2 := Lib.hid (g2.step G0.out.below)
      have G3 := Lib.hid (g3.step G0.out.below)
      have G4 := Lib.hid (g4.step G0.out.below)
      obtain ⟨A5, c5, rfl⟩ := prs_form2 g1
      obtain ⟨A6, c6, rfl⟩ := prs_form2 g2
      obtain ⟨A7, c7, rfl⟩ := faces_form g3
      obtain ⟨A8, c8, rfl⟩ := ints_form g4
      clear hb g1 g2 g3 g4
      obtain ⟨x0, x1, _⟩ := H1.out.1
      obtain ⟨y0, y1, y2, y3, _⟩ := G0.out.1
      go_wp2_with fail
      refine (HT.out _ _ _ _ _ _ _ _ _ _ _ _ B1.out).mono ?_
      rintro e w2 ⟨rfl, hb⟩
      have B2 := Lib.hid (B1.out.trans (hb.mono B1.out.size))
      replace G0 := Lib.hid (G0.out.step hb)
      replace G1 := Lib.hid (G1.out.step hb)
      replace G2 := Lib.hid (G2.out.step hb)
      replace G3 := Lib.hid (G3.out.step hb)
      replace G4 := Lib.hid (G4.out.step hb)
      clear hb x0 x1 y0 y1 y2 y3
      obtain ⟨y0, y1, y2, y3, _⟩ := G0.out.1
      go_wp2_with fail
      refine (HCL.out _ _ _ _ _ _ _ G1.out G2.out G3.out G4.out B2.out).mono ?_
      rintro e w3 ⟨rfl, hb⟩
      have B3 := Lib.hid (B2.out.trans (hb.mono B2.out.size)); clear hb
      go_wp2_with fail
      go_ret
      exact ⟨ret_int HX.out.symm, B3.out⟩

set_option maxRecDepth 100000 in
theorem specL13 (n : Int) (xs : List Int) (v : Value) (w : World) (hv : Seq w v xs) : Calls Tryz.prog 51 #[.int .i64 n, v] w (BoolIs (decide ((xs.length : Int) = n) && inR xs 0 5) w) := by
  have hlen := hv.len
  obtain ⟨A, c, rfl, _, _, hcs⟩ := hv.form
  clear hv
  have HA := Lib.hid (show inR xs 0 5 = xs.all fun x => inB x 0 5 from rfl)
  have HIN := Lib.hid (fun x w => specIn x 0 5 w)
  generalize inR xs 0 5 = r at *
  go_enter Tryz.func51, Tryz.ntmps51
  go_wp2_with fail
  go_loopw [5] (fun i wr => ∃ m : Nat, m ≤ xs.length ∧ i = .int .i64 m ∧ ((xs.take m).all fun x => inB x 0 5) = true ∧ wr = w) (fun i _ => xs.length - (intOf i).toNat)
  case atStart => exact ⟨0, Nat.zero_le _, rfl, by simp, rfl⟩
  case round =>
    obtain ⟨m, hm, rfl, ha, rfl⟩ := hrel
    have HAM := Lib.hid ha; clear ha
    by_cases hlt : m < xs.length
    · obtain ⟨bb, o, rfl, hbl, hc⟩ := hcs m hlt
      have HT := Lib.hid (show xs.take (m + 1) = xs.take m ++ [atZ xs m] from by rw [List.take_succ_eq_append_getElem hlt, atZ_get hlt])
      have HM := Lib.hid (show atZ xs m ∈ xs from by rw [← atZ_get hlt]; exact List.getElem_mem hlt)
      have hz1 : (m : Int) < (xs.length : Int) := by omega
      have hz2 : (0 : Int) ≤ m := by omega
      have HX := Lib.hid (HIN.out (atZ xs m))
      generalize hz : atZ xs m = z at *
      clear hz
      by_cases hb : inB z 0 5 = true
      · have HBT := Lib.hid hb
        rw [hb] at HX
        clear hb
        go_wp2_with fail
        refine (HX.out _).mono ?_
        rintro e w' ⟨rfl, rfl⟩
        go_wp2_with fail
        exact ⟨⟨m + 1, by omega, by go_num, by rw [HT.out, List.all_append, HAM.out]; simp [HBT.out], trivial⟩, by simp [intOf]; omega⟩
      · have HBT := Lib.hid hb
        rw [Bool.not_eq_true] at hb
        rw [hb] at HX
        clear hb
        go_wp2_with fail
        refine (HX.out _).mono ?_
        rintro e w' ⟨rfl, rfl⟩
        go_wp2_with fail
        go_ret
        exact ⟨ret_bool (by rw [HA.out, show (xs.all fun x => inB x 0 5) = false from List.all_eq_false.2 ⟨z, HM.out, HBT.out⟩]; simp), Below.refl _ _⟩
    · obtain rfl : m = xs.length := by omega
      have HX := Lib.hid (show r = true from by rw [HA.out, ← HAM.out, List.take_length])
      clear HA HAM hcs hm hlt
      obtain ⟨N, hN⟩ : ∃ N : Int, (xs.length : Int) = N := ⟨_, rfl⟩
      by_cases hq : (xs.length : Int) = n
      · subst hq
        go_wp2_with fail
        go_ret
        exact ⟨ret_bool (by simp [HX.out]), Below.refl _ _⟩
      · have HNQ := Lib.hid hq
        go_wp2_with fail
        go_ret
        exact ⟨ret_bool (by have h1 := HX.out; have h2 := HNQ.out; simp_all), Below.refl _ _⟩

set_option maxRecDepth 100000 in
set_option maxHeartbeats 4000000 in
theorem specClashOf (ns ls : List Nd) (cs : List Int) (vn vl v : Value) (w : World) (hn : Prs w vn ns) (hl : Prs w vl ls) (hv : Seq w v cs) :
    Calls Tryz.prog 22 #[.agg #[vn, vl], v] w (IntIs (clashW ns ls cs) w) := by
  have HN := Lib.hid hn
  have HL := Lib.hid hl
  have HV := Lib.hid hv
  have HW := Lib.hid (fun w h1 h2 => specWhole ns ls vn vl w h1 h2)
  have HF := Lib.hid (fun w h1 h2 => specFacesL ns ls vn vl w h1 h2)
  have HL13 := Lib.hid (fun n w h => specL13 n cs v w h)
  unfold BoolIs at HW HL13
  unfold FacesNew at HF
  have HLD := Lib.hid (show listB ns ls 0 5 cs = (wholeB ns ls && (decide (cs.length = (wF ns ls).length) && inR cs 0 5)) from rfl)
  have HNO := Lib.hid (fun (h : listB ns ls 0 5 cs = false) => show clashW ns ls cs = -1 from if_neg (by rw [h]; simp))
  have H0 := Lib.hid (held_pair w vn vl 32)
  obtain ⟨A, c, rfl⟩ := prs_form2 hn
  obtain ⟨A2, c2, rfl⟩ := prs_form2 hl
  obtain ⟨A3, c3, rfl⟩ := seq_form2 hv
  clear hn hl hv
  by_cases hh : wholeB ns ls = true
  · obtain ⟨hw, hl0, h20, h12⟩ := whole_win hh
    have HSI := Lib.hid (fun w h1 h2 => specSides9 ns ls (.slice A ns.length c) (.slice A2 ls.length c2) w h1 h2 hh)
    unfold IntsNew at HSI
    have h40 := wF_len (ns := ns) (ls := ls)
    have HAL := Lib.hid (atW_len ns ls)
    have HG := Lib.hid (show gA ns ls = atW ns ls ∧ gL ns ls = ls from ⟨if_pos hh, if_pos hh⟩)
    have HQ := Lib.hid (fun (hlist : listB ns ls 0 5 cs = true) d (hd : d < (atW ns ls).length) => (show ∃ q : Nat, atZ (atW ns ls) d = (q : Int) ∧ q < cs.length from by
      have e : gA ns ls = atW ns ls := if_pos hh
      rw [← e] at hd ⊢
      obtain ⟨q, h, hlt⟩ := g_face hd
      exact ⟨q, h, by rw [(listB_parts hlist).2.1]; exact hlt⟩))
    have HX := Lib.hid (fun (hlist : listB ns ls 0 5 cs = true) => show clashW ns ls cs = firstI (clashP (atW ns ls) cs) ls.length from by
      rw [clashW, if_pos hlist, HG.out.1, HG.out.2])
    have HP := Lib.hid (fun k => show clashP (atW ns ls) cs k = ((!(atZ (atW ns ls) (2 * k) == atZ (atW ns ls) (2 * k + 1))) && (atZ cs (atZ (atW ns ls) (2 * k)).toNat == atZ cs (atZ (atW ns ls) (2 * k + 1)).toNat)) from rfl)
    rw [hh] at HW HLD
    rw [Bool.true_and] at HLD
    clear hh hw HG
    generalize clashW ns ls cs = res at *
    generalize listB ns ls 0 5 cs = lb at *
    generalize clashP (atW ns ls) cs = p at *
    generalize inR cs 0 5 = r at *
    generalize atW ns ls = ds at *
    generalize wF ns ls = rs at *
    go_enter Tryz.func22, Tryz.ntmps22
    go_wp2_with fail
    refine (HW.out _ (HN.out.step H0.out.below) (HL.out.step H0.out.below)).mono ?_
    rintro e w1 ⟨rfl, hb⟩
    have H1 := Lib.hid (H0.out.step hb); clear hb H0
    obtain ⟨x0, x1, _⟩ := H1.out.1
    go_wp2_with fail
    refine (HF.out _ (HN.out.step H1.out.below) (HL.out.step H1.out.below)).mono ?_
    rintro e w2 ⟨vf, rfl, hf, hb⟩
    obtain ⟨a, c4, rfl⟩ := faces_form hf
    have H2 := Lib.hid (H1.out.step hb); clear hb hf x0 x1 H1
    go_wp2_with fail
    refine (HL13.out _ _ (HV.out.step H2.out.below)).mono ?_
    have hdq : decide ((cs.length : Int) = (rs.length : Int)) = decide (cs.length = rs.length) := by
      by_cases e : cs.length = rs.length
      · simp [e]
      · rw [decide_eq_false e, decide_eq_false (by omega)]
    rw [hdq, ← HLD.out]
    clear hdq
    rintro e w3 ⟨rfl, hb⟩
    have H3 := Lib.hid (H2.out.step hb); clear hb H2
    cases lb
    · have HX2 := Lib.hid (HNO.out (by first | rfl | trivial))
      go_wp2_with fail
      go_ret
      exact ⟨ret_int HX2.out.symm, H3.out.below⟩
    · have HX2 := Lib.hid (HX.out (by first | rfl | trivial))
      replace HQ := Lib.hid (HQ.out (by first | rfl | trivial))
      clear HX HNO HLD
      obtain ⟨x0, x1, _⟩ := H3.out.1
      go_wp2_with fail
      refine (HSI.out _ (HN.out.step H3.out.below) (HL.out.step H3.out.below)).mono ?_
      rintro e w4 ⟨vd, rfl, hm, hb⟩
      have H4 := Lib.hid (H3.out.step hb)
      obtain ⟨gl, cl, rfl⟩ := hm.some_ (by rw [HAL.out]; omega)
      have HLB := Lib.hid (hm.mono (b' := w.heap.size + 1) (by have := H3.out.2.1.1; omega))
      clear hb hm H3 x0 x1
      have hla := HAL.out
      obtain ⟨N, hN⟩ : ∃ N, N = ds.length := ⟨_, rfl⟩
      rw [← hN] at HLB hla ⊢
      have HNN := Lib.hid hN; clear hN
      clear hla
      go_wp2_with fail
      go_loopw [6] (fun i wr => ∃ m : Nat, m ≤ ls.length ∧ i = .int .i64 m ∧ (∀ j, j < m → p j = false) ∧ Ints wr (w.heap.size + 1) (.slice (some ⟨gl, 0, none⟩) N cl) ds ∧ Held w wr [(w.heap.size, 0, .slice A ns.length c), (w.heap.size, 1, .slice A2 ls.length c2)]) (fun i _ => ls.length - (intOf i).toNat)
      case atStart => exact ⟨0, Nat.zero_le _, rfl, fun j h => by omega, HLB.out, H4.out⟩
      case round =>
        clear HLB H4
        obtain ⟨m, hm, rfl, hno, hlab, hh⟩ := hrel
        have HLB := Lib.hid hlab; clear hlab
        have HNO := Lib.hid hno; clear hno
        have H1 := Lib.hid hh; clear hh
        obtain ⟨x0, x1, _⟩ := H1.out.1
        by_cases hlt : m < ls.length
        · obtain ⟨z0, -, hgl0, -, -⟩ := HLB.out.at_ (j := 2 * m) (by have := HAL.out; omega)
          obtain ⟨z1, -, -, -, -⟩ := HLB.out.at_ (j := 2 * m + 1) (by have := HAL.out; omega)
          have HPM := Lib.hid (HP.out m)
          obtain ⟨q0, hq0, hq0l⟩ := HQ.out (2 * m) (by have := HAL.out; omega)
          obtain ⟨q1, hq1, hq1l⟩ := HQ.out (2 * m + 1) (by have := HAL.out; omega)
          rw [hq0, hq1, Int.toNat_natCast, Int.toNat_natCast] at HPM
          obtain ⟨e0, he0⟩ : ∃ e0, e0 = 2 * m := ⟨_, rfl⟩
          obtain ⟨e1, he1⟩ : ∃ e1, e1 = e0 + 1 := ⟨_, rfl⟩
          rw [hq0] at z0
          rw [hq1] at z1
          rw [← he0] at z0 z1
          rw [← he1] at z1
          have hN2 : e1 < N := by have := HAL.out; have := HNN.out; omega
          clear hq0 hq1
          obtain ⟨A6, c6, e6, -, -, hcs⟩ := (HV.out.step H1.out.below).form
          simp only [Value.slice.injEq] at e6
          obtain ⟨rfl, -, -⟩ := e6
          obtain ⟨bb, o, rfl, hbl, k0⟩ := hcs q0 hq0l
          obtain ⟨bb', o', e7, -, k1⟩ := hcs q1 hq1l
          simp only [Option.some.injEq, Addr.mk.injEq] at e7
          obtain ⟨rfl, rfl, -⟩ := e7
          clear hcs
          generalize atZ cs q0 = y0 at *
          generalize atZ cs q1 = y1 at *
          have p1 : (0 : Int) ≤ e0 := by omega
          have p2 : (e0 : Int) < (N : Int) := by omega
          have p3 : (0 : Int) ≤ e1 := by omega
          have p4 : (e1 : Int) < (N : Int) := by omega
          have p5 : (0 : Int) ≤ m := by omega
          have p6 : (m : Int) < (ls.length : Int) := by omega
          have p7 : (0 : Int) ≤ q0 := by omega
          have p8 : (q0 : Int) < (cs.length : Int) := by omega
          have p9 : (0 : Int) ≤ q1 := by omega
          have p10 : (q1 : Int) < (cs.length : Int) := by omega
          have r1 : 2 * (m : Int) = (e0 : Int) := by omega
          have r2 : (e0 : Int) + 1 = (e1 : Int) := by omega
          have r3 : IntKind.i64.wrap (2 * (m : Int)) = (e0 : Int) := by rw [IntWalk.i64_in _ (by omega)]; omega
          have r4 : IntKind.i64.wrap ((e0 : Int) + 1) = (e1 : Int) := by rw [IntWalk.i64_in _ (by omega)]; omega
          have r5 : IntKind.i64.wrap (e0 : Int) = (e0 : Int) := IntWalk.i64_in _ (by omega)
          have r6 : IntKind.i64.wrap (e1 : Int) = (e1 : Int) := IntWalk.i64_in _ (by omega)
          clear he0 he1
          obtain ⟨b1, hb1⟩ : ∃ b, ((q0 : Int) == (q1 : Int)) = b := ⟨_, rfl⟩
          obtain ⟨b2, hb2⟩ : ∃ b, (y0 == y1) = b := ⟨_, rfl⟩
          rw [hb1, hb2] at HPM
          have hn1 : ((q0 : Int) != (q1 : Int)) = !b1 := by rw [← hb1]; rfl
          have S1 := Lib.hid (Held.start H1.out.1 H1.out.2.1)
          have H2 := Lib.hid (held_plus S1.out (gs := [(gl, e0, .int .i64 (q0 : Int)), (gl, e1, .int .i64 (q1 : Int)), (bb, o + q0, .int .i64 y0), (bb, o + q1, .int .i64 y1)]) ⟨z0, z1, k0, k1, trivial⟩ ⟨hgl0, hgl0, hbl, hbl, trivial⟩)
          simp only [newFs, List.cons_append, List.nil_append, List.append_nil] at H2
          clear k0 k1 S1 x0 x1 z0 z1
          obtain ⟨x0, x1, x2, x3, x4, x5, _⟩ := H2.out.1
          cases b1 <;> simp only [Bool.not_true, Bool.not_false] at hn1
          · cases b2
            · go_wp2_with fail
              refine regionD (S := fun W => Held _ W [(w.heap.size, 0, .slice A ns.length c), (w.heap.size, 1, .slice A2 ls.length c2), (gl, e0, .int .i64 (q0)), (gl, e1, .int .i64 (q1)), (bb, o + q0, .int .i64 (y0)), (bb, o + q1, .int .i64 (y1))]) (by kernel_rfl) H2.out.drew ?_
              iterate 32 (refine takeT (v := ?_) rfl (by kernel_rfl) (by kernel_rfl) (by kernel_rfl) ?_ ?_; rotate_left; (first | (refine Or.inr ⟨by rfl, ?_⟩; with_reducible rfl) | (refine Or.inl ⟨by rfl, fun W hS => detRes_value (w' := W) ?_ hS⟩; obtain ⟨x0, x1, x2, x3, x4, x5, _⟩ := hS.1; go_simp; first | done | with_reducible rfl) | fail); (simp only [Act.put, List.setIfInBounds_toArray, List.set_cons_zero, List.set_cons_succ]))
              refine doneD (by kernel_rfl) fun wH5 HS => ?_
              have H5 := Lib.hid HS; clear HS
              try clear x0 x1 x2 x3 x4 x5
              obtain ⟨x0, x1, x2, x3, x4, x5, _⟩ := H5.out.1
              go_wp2_with fail
              exact ⟨⟨m + 1, by omega, by go_num, fun j hj => by
                by_cases e : j = m
                · rw [e]; exact HPM.out
                · exact HNO.out j (by omega), HLB.out.step H5.out.below, H1.out.step H5.out.below⟩, by simp [intOf]; omega⟩
            · go_wp2_with fail
              refine regionD (S := fun W => Held _ W [(w.heap.size, 0, .slice A ns.length c), (w.heap.size, 1, .slice A2 ls.length c2), (gl, e0, .int .i64 (q0)), (gl, e1, .int .i64 (q1)), (bb, o + q0, .int .i64 (y0)), (bb, o + q1, .int .i64 (y1))]) (by kernel_rfl) H2.out.drew ?_
              iterate 32 (refine takeT (v := ?_) rfl (by kernel_rfl) (by kernel_rfl) (by kernel_rfl) ?_ ?_; rotate_left; (first | (refine Or.inr ⟨by rfl, ?_⟩; with_reducible rfl) | (refine Or.inl ⟨by rfl, fun W hS => detRes_value (w' := W) ?_ hS⟩; obtain ⟨x0, x1, x2, x3, x4, x5, _⟩ := hS.1; go_simp; first | done | with_reducible rfl) | fail); (simp only [Act.put, List.setIfInBounds_toArray, List.set_cons_zero, List.set_cons_succ]))
              refine doneD (by kernel_rfl) fun wH5 HS => ?_
              have H5 := Lib.hid HS; clear HS
              try clear x0 x1 x2 x3 x4 x5
              obtain ⟨x0, x1, x2, x3, x4, x5, _⟩ := H5.out.1
              go_wp2_with fail
              go_ret
              exact ⟨ret_int (by rw [HX2.out]; exact (firstI_at HNO.out HPM.out ls.length hlt).symm), (H1.out.step H5.out.below).below⟩
          · go_wp2_with fail
            refine regionD (S := fun W => Held _ W [(w.heap.size, 0, .slice A ns.length c), (w.heap.size, 1, .slice A2 ls.length c2), (gl, e0, .int .i64 (q0)), (gl, e1, .int .i64 (q1)), (bb, o + q0, .int .i64 (y0)), (bb, o + q1, .int .i64 (y1))]) (by kernel_rfl) H2.out.drew ?_
            iterate 32 (refine takeT (v := ?_) rfl (by kernel_rfl) (by kernel_rfl) (by kernel_rfl) ?_ ?_; rotate_left; (first | (refine Or.inr ⟨by rfl, ?_⟩; with_reducible rfl) | (refine Or.inl ⟨by rfl, fun W hS => detRes_value (w' := W) ?_ hS⟩; obtain ⟨x0, x1, x2, x3, x4, x5, _⟩ := hS.1; go_simp; first | done | with_reducible rfl) | fail); (simp only [Act.put, List.setIfInBounds_toArray, List.set_cons_zero, List.set_cons_succ]))
            refine doneD (by kernel_rfl) fun wH5 HS => ?_
            have H5 := Lib.hid HS; clear HS
            try clear x0 x1 x2 x3 x4 x5
            obtain ⟨x0, x1, x2, x3, x4, x5, _⟩ := H5.out.1
            go_wp2_with fail
            exact ⟨⟨m + 1, by omega, by go_num, fun j hj => by
              by_cases e : j = m
              · rw [e]; exact HPM.out
              · exact HNO.out j (by omega), HLB.out.step H5.out.below, H1.out.step H5.out.below⟩, by simp [intOf]; omega⟩
        · obtain rfl : m = ls.length := by omega
          go_wp2_with fail
          go_ret
          exact ⟨ret_int (by rw [HX2.out]; exact (firstI_none _ HNO.out).symm), H1.out.below⟩
  · have HX := Lib.hid (show clashW ns ls cs = -1 from HNO.out (by rw [HLD.out]; simp [hh]))
    rw [show wholeB ns ls = false by simpa using hh] at HW
    clear hh HLD HNO
    generalize clashW ns ls cs = res at *
    go_enter Tryz.func22, Tryz.ntmps22
    go_wp2_with fail
    refine (HW.out _ (HN.out.step H0.out.below) (HL.out.step H0.out.below)).mono ?_
    rintro e w1 ⟨rfl, hb⟩
    have H1 := Lib.hid (H0.out.step hb); clear hb H0
    go_wp2_with fail
    go_ret
    exact ⟨ret_int HX.out.symm, H1.out.below⟩
end Go.Proofs.YtfckgidilbjokaaGreat
