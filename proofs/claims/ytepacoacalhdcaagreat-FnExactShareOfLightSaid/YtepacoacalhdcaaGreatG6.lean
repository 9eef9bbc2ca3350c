/-
  Several texts in one: a claim has at most 60 files.
-/
import Derived.Test.YtepacoacalhdcaaGreatG12
import Derived.Deep.QuietTactic
import Derived.BigQuiet
import Derived.Test.YtepacoacalhdcaaGreatG5
import Derived.Test.YtepacoacalhdcaaGreatG4

namespace Go.Proofs.YtepacoacalhdcaaGreat
open Go.RowKit
set_option linter.unusedVariables false
set_option linter.unusedSimpArgs false

def hasLd (ns ls : List Nd) (k : Int) : Bool := winB ns ls && idxB ls.length k

def sidB (ns ls : List Nd) (k : Int) : Bool := wholeB ns ls && idxB ls.length k

noncomputable def sdA (ns ls : List Nd) (k : Int) : Int := if sidB ns ls k = true then atZ (atW ns ls) (2 * k.toNat) else -1

noncomputable def sdB (ns ls : List Nd) (k : Int) : Int := if sidB ns ls k = true then atZ (atW ns ls) (2 * k.toNat + 1) else -1

end Go.Proofs.YtepacoacalhdcaaGreat

namespace Go.Proofs.YtepacoacalhdcaaGreat
open Go.RowKit
set_option linter.unusedVariables false
set_option linter.unusedSimpArgs false

def looseP (ds : List Int) (k : Nat) : Bool := atZ ds (2 * k) == atZ ds (2 * k + 1)

noncomputable def looseW (ns ls : List Nd) : List Int := fltN (looseP (gA ns ls)) (gL ns ls).length

noncomputable def looseB (ns ls : List Nd) (k : Int) : Bool := sidB ns ls k && looseP (atW ns ls) k.toNat

noncomputable def tightB (ns ls : List Nd) : Bool := wholeB ns ls && decide ((looseW ns ls).length = 0)

theorem looseW_len (ns ls : List Nd) : (looseW ns ls).length ≤ 20 := by
  have := fltN_len (looseP (gA ns ls)) (gL ns ls).length
  have := (g_len ns ls).2
  unfold looseW
  omega

end Go.Proofs.YtepacoacalhdcaaGreat

namespace Go.Proofs.YtepacoacalhdcaaGreat
open Go.RowKit
set_option linter.unusedVariables false
set_option linter.unusedSimpArgs false

end Go.Proofs.YtepacoacalhdcaaGreat

namespace Go.Proofs.YtepacoacalhdcaaGreat
open Go.RowKit
set_option linter.unusedVariables false
set_option linter.unusedSimpArgs false

/-- One int from lo to hi for each face. -/
noncomputable def listB (ns ls : List Nd) (lo hi : Int) (xs : List Int) : Bool := wholeB ns ls && (decide (xs.length = (wF ns ls).length) && inR xs lo hi)

set_option maxRecDepth 100000 in
theorem implIsColors (A1 A2 A3 A4 : Option Addr) (n1 c1 n2 c2 n3 c3 n4 c4 : Nat) (xs : List Int) (v : Value) (w : World) (hv : Seq w v xs) :
    Calls Tryz.prog 160 #[.agg #[.slice A1 n1 c1, .slice A2 n2 c2, .slice A3 n3 c3, .slice A4 n4 c4], v] w (BoolIs (decide (xs.length = n3) && inR xs 0 5) w) := by
  have H0 := Lib.hid (heldG w (.slice A1 n1 c1) (.slice A2 n2 c2) (.slice A3 n3 c3) (.slice A4 n4 c4) 98)
  have HR := Lib.hid (fun W hb => implInR xs v 0 5 W (hv.step hb))
  unfold BoolIs at HR
  obtain ⟨A, c, rfl⟩ := seq_form2 hv
  clear hv
  generalize inR xs 0 5 = r at *
  generalize xs.length = n at *
  by_cases he : n = n3
  · subst he
    rw [decide_eq_true rfl, Bool.true_and]
    go_enter Tryz.func160, Tryz.ntmps160
    obtain ⟨x0, x1, x2, x3, _⟩ := H0.out.1
    go_wp2_with fail
    refine (HR.out _ H0.out.below).mono ?_
    rintro e w1 ⟨rfl, hb⟩
    have H1 := Lib.hid (H0.out.step hb); clear hb
    go_wp2_with fail
    go_ret
    exact ⟨rfl, H1.out.below⟩
  · rw [decide_eq_false he, Bool.false_and]
    have hne : ¬ (n : Int) = (n3 : Int) := by omega
    clear he
    go_enter Tryz.func160, Tryz.ntmps160
    obtain ⟨x0, x1, x2, x3, _⟩ := H0.out.1
    go_wp2_with fail
    go_ret
    exact ⟨rfl, H0.out.below⟩

set_option maxRecDepth 100000 in
set_option maxHeartbeats 1000000 in
theorem specHistOk (ns ls : List Nd) (xs : List Int) (vn vl v : Value) (w : World) (hn : Prs w vn ns) (hl : Prs w vl ls) (hv : Seq w v xs) :
    Calls Tryz.prog 82 #[.agg #[vn, vl], v] w (BoolIs (listB ns ls 0 3000 xs) w) := by
  have HW := Lib.hid (fun w h1 h2 => specWhole ns ls vn vl w h1 h2)
  have HF := Lib.hid (fun w h1 h2 => specFacesL ns ls vn vl w h1 h2)
  unfold BoolIs at HW
  unfold FacesNew at HF
  have HN := Lib.hid hn
  have HL := Lib.hid hl
  have H0 := Lib.hid (held_pair w vn vl 32)
  have hlen := hv.len
  have HV := Lib.hid (hv.step H0.out.below)
  obtain ⟨A, c, rfl⟩ := prs_form2 hn
  obtain ⟨A2, c2, rfl⟩ := prs_form2 hl
  obtain ⟨A3, c3, rfl⟩ := seq_form2 hv
  clear hn hl hv
  have h40 := wF_len (ns := ns) (ls := ls)
  have HR := Lib.hid (show listB ns ls 0 3000 xs = (wholeB ns ls && (decide (xs.length = (wF ns ls).length) && inR xs 0 3000)) from rfl)
  have HA := Lib.hid (show inR xs 0 3000 = xs.all fun x => inB x 0 3000 from rfl)
  have HIN := Lib.hid (fun x w => specIn x 0 3000 w)
  generalize inR xs 0 3000 = r at *
  generalize listB ns ls 0 3000 xs = res at *
  generalize wholeB ns ls = ok at *
  generalize wF ns ls = rs at *
  go_enter Tryz.func82, Tryz.ntmps82
  go_wp2_with fail
  generalize hW0 : w.alloc (.cells #[.slice A ns.length c, .slice A2 ls.length c2] 32) = W0 at *
  clear hW0
  obtain ⟨A3', c3', he3, _, _, hcs⟩ := HV.out.form
  simp only [Value.slice.injEq] at he3
  obtain ⟨rfl, -, -⟩ := he3
  go_loopw [5] (fun i wr => ∃ m : Nat, m ≤ xs.length ∧ i = .int .i64 m ∧ ((xs.take m).all fun x => inB x 0 3000) = true ∧ wr = W0) (fun i _ => xs.length - (intOf i).toNat)
  case atStart => exact ⟨0, Nat.zero_le _, rfl, by simp, rfl⟩
  case round =>
    obtain ⟨m, hm, rfl, ha, rfl⟩ := hrel
    have HAM := Lib.hid ha; clear ha
    by_cases hlt : m < xs.length
    · obtain ⟨bb, o, rfl, hbl, hc⟩ := hcs m hlt
      have HT := Lib.hid (show xs.take (m + 1) = xs.take m ++ [atZ xs m] from by rw [List.take_succ_eq_append_getElem hlt, atZ_get hlt])
      have HM := Lib.hid (show atZ xs m ∈ xs from by rw [← atZ_get hlt]; exact List.getElem_mem hlt)
      have hz1 : (m : Int) < (xs.length : Int) := by omega
      have hz2 : (0 : Int) ≤ m := by omega
      have HX := Lib.hid (HIN.out (atZ xs m))
      generalize hz : atZ xs m = z at *
      clear hz
      by_cases hb : inB z 0 3000 = true
      · have HBT := Lib.hid hb
        rw [hb] at HX
        clear hb
        go_wp2_with fail
        refine (HX.out _).mono ?_
        rintro e w' ⟨rfl, rfl⟩
        go_wp2_with fail
        exact ⟨⟨m + 1, by omega, by go_num, by rw [HT.out, List.all_append, HAM.out]; simp [HBT.out], trivial⟩, by simp [intOf]; omega⟩
      · have HBT := Lib.hid hb
        rw [Bool.not_eq_true] at hb
        rw [hb] at HX
        clear hb
        go_wp2_with fail
        refine (HX.out _).mono ?_
        rintro e w' ⟨rfl, rfl⟩
        go_wp2_with fail
        go_ret
        exact ⟨ret_bool (by rw [HR.out, HA.out, show (xs.all fun x => inB x 0 3000) = false from List.all_eq_false.2 ⟨z, HM.out, HBT.out⟩]; simp), H0.out.below⟩
    · obtain rfl : m = xs.length := by omega
      have HX := Lib.hid (show r = true from by rw [HA.out, ← HAM.out, List.take_length])
      have HR := Lib.hid (show res = (ok && decide (xs.length = rs.length)) from by rw [HR.out, HX.out, Bool.and_true])
      clear HX HA HAM hcs
      obtain ⟨x0, x1, _⟩ := H0.out.1
      cases ok
      · go_wp2_with fail
        refine (HW.out _ (HN.out.step H0.out.below) (HL.out.step H0.out.below)).mono ?_
        rintro e w1 ⟨rfl, hb⟩
        have H1 := Lib.hid (H0.out.step hb); clear hb
        go_wp2_with fail
        go_ret
        exact ⟨ret_bool (by rw [HR.out]; rfl), H1.out.below⟩
      · go_wp2_with fail
        refine (HW.out _ (HN.out.step H0.out.below) (HL.out.step H0.out.below)).mono ?_
        rintro e w1 ⟨rfl, hb⟩
        have H1 := Lib.hid (H0.out.step hb); clear hb x0 x1
        obtain ⟨x0, x1, _⟩ := H1.out.1
        go_wp2_with fail
        refine (HF.out _ (HN.out.step H1.out.below) (HL.out.step H1.out.below)).mono ?_
        rintro e w2 ⟨vf, rfl, hf, hb⟩
        obtain ⟨a, c4, rfl⟩ := faces_form hf
        have H2 := Lib.hid (H1.out.step hb); clear hb hf x0 x1
        by_cases hq : xs.length = rs.length
        · have hq2 : (xs.length : Int) = (rs.length : Int) := by omega
          have HX := Lib.hid (show res = true from by rw [HR.out]; simp [hq])
          have HX2 := Lib.hid hq2
          clear hq hq2
          go_wp2_with fail
          go_ret
          exact ⟨ret_bool (by have := HX.out; have := HX2.out; simp_all), H2.out.below⟩
        · have hq2 : ¬ (xs.length : Int) = (rs.length : Int) := by omega
          have HX := Lib.hid (show res = false from by rw [HR.out]; simp [hq])
          clear hq
          go_wp2_with fail
          go_ret
          exact ⟨ret_bool (by have := HX.out; simp_all), H2.out.below⟩
end Go.Proofs.YtepacoacalhdcaaGreat

namespace Go.Proofs.YtepacoacalhdcaaGreat
open Go.RowKit
set_option linter.unusedVariables false
set_option linter.unusedSimpArgs false

def clashP (ds cs : List Int) (k : Nat) : Bool := (!(atZ ds (2 * k) == atZ ds (2 * k + 1))) && (atZ cs (atZ ds (2 * k)).toNat == atZ cs (atZ ds (2 * k + 1)).toNat)

noncomputable def clashW (ns ls : List Nd) (cs : List Int) : Int := if listB ns ls 0 5 cs = true then firstI (clashP (gA ns ls) cs) (gL ns ls).length else -1

noncomputable def properB (ns ls : List Nd) (cs : List Int) : Bool := listB ns ls 0 5 cs && decide (clashW ns ls cs < 0)

theorem g_face {ns ls : List Nd} {d : Nat} (h : d < (gA ns ls).length) : ∃ q : Nat, atZ (gA ns ls) d = (q : Int) ∧ q < (wF ns ls).length := by
  unfold gA wF at *
  by_cases hh : wholeB ns ls = true
  · rw [if_pos hh] at h ⊢
    rw [if_pos hh]
    rw [atW_len] at h
    exact ⟨_, atW_at h, (atW_face (whole_win hh).1 h).2⟩
  · rw [if_neg hh] at h
    simp at h

theorem listB_parts {ns ls : List Nd} {lo hi : Int} {xs : List Int} (h : listB ns ls lo hi xs = true) : wholeB ns ls = true ∧ xs.length = (wF ns ls).length ∧ inR xs lo hi = true := by
  unfold listB at h
  simpa [Bool.and_eq_true] using h

set_option maxRecDepth 100000 in
set_option maxHeartbeats 2000000 in
theorem implClash (v1 v2 v3 v4 v : Value) (rs : List (List Int)) (ds cs : List Int) (ns ls : List Nd) (B B2 : Nat) (w : World) (hn : Prs w v1 ns) (hl : Prs w v2 ls) (hf : Faces w B v3 rs) (ha : Ints w B2 v4 ds) (hv : Seq w v cs) (hk : ds.length = 2 * ls.length) (hd : ls.length ≤ 20)
    (hq : ∀ d, d < ds.length → ∃ q : Nat, atZ ds d = (q : Int) ∧ q < cs.length) :
    Calls Tryz.prog 161 #[.agg #[v1, v2, v3, v4], v] w (IntIs (firstI (clashP ds cs) ls.length) w) := by
  have HS := Lib.hid (fun k W hb (hk1 : k < ls.length) => implSides v1 v2 v3 v4 rs ds ns ls B B2 k W (hn.step hb) (hl.step hb) (hf.step hb) (ha.step hb) (by omega) (by omega))
  unfold ArrIs at HS
  have HV := Lib.hid hv
  have HQ := Lib.hid hq
  have HK := Lib.hid hk
  obtain ⟨A, c, rfl⟩ := prs_form2 hn
  obtain ⟨A2, c2, rfl⟩ := prs_form2 hl
  obtain ⟨A3, c3, rfl⟩ := faces_form hf
  obtain ⟨A4, c4, rfl⟩ := ints_form ha
  obtain ⟨A5, c5, rfl⟩ := seq_form2 hv
  have H0 := Lib.hid (heldG w (.slice A ns.length c) (.slice A2 ls.length c2) (.slice A3 rs.length c3) (.slice A4 ds.length c4) 98)
  have HP := Lib.hid (fun k => show clashP ds cs k = ((!(atZ ds (2 * k) == atZ ds (2 * k + 1))) && (atZ cs (atZ ds (2 * k)).toNat == atZ cs (atZ ds (2 * k + 1)).toNat)) from rfl)
  clear hn hl hf ha hk hq hv
  generalize clashP ds cs = p at *
  go_enter Tryz.func161, Tryz.ntmps161
  go_wp2_with fail
  go_loopw [11] (fun i wr => ∃ m : Nat, m ≤ ls.length ∧ i = .int .i64 m ∧ (∀ j, j < m → p j = false) ∧ Held w wr [(w.heap.size, 0, .slice A ns.length c), (w.heap.size, 1, .slice A2 ls.length c2), (w.heap.size, 2, .slice A3 rs.length c3), (w.heap.size, 3, .slice A4 ds.length c4)]) (fun i _ => ls.length - (intOf i).toNat)
  case atStart => exact ⟨0, Nat.zero_le _, rfl, fun j h => by omega, H0.out⟩
  case round =>
    clear H0
    obtain ⟨m, hm, rfl, hno, hh⟩ := hrel
    have HNO := Lib.hid hno; clear hno
    have H1 := Lib.hid hh; clear hh
    obtain ⟨x0, x1, x2, x3, _⟩ := H1.out.1
    by_cases hlt : m < ls.length
    · have p1 : (0 : Int) ≤ m := by omega
      have p2 : (m : Int) < (ls.length : Int) := by omega
      have HC := Lib.hid (HS.out m wr H1.out.below hlt)
      have HPM := Lib.hid (HP.out m)
      obtain ⟨q0, hq0, hq0l⟩ := HQ.out (2 * m) (by have := HK.out; omega)
      obtain ⟨q1, hq1, hq1l⟩ := HQ.out (2 * m + 1) (by have := HK.out; omega)
      rw [hq0, hq1, Int.toNat_natCast, Int.toNat_natCast] at HPM
      rw [hq0, hq1] at HC
      clear hq0 hq1
      go_wp2_with fail
      refine HC.out.mono ?_
      rintro e w2 ⟨rfl, hb⟩
      have H2 := Lib.hid (H1.out.step hb); clear hb x0 x1 x2 x3
      have H3 := Lib.hid (H2.out.new2 w2.heap.size rfl [.int .i64 (q0 : Int), .int .i64 (q1 : Int)] 194)
      obtain ⟨A6, c6, e6, -, -, hcs⟩ := (HV.out.step H3.out.below).form
      simp only [Value.slice.injEq] at e6
      obtain ⟨rfl, -, -⟩ := e6
      obtain ⟨bb, o, rfl, hbl, k0⟩ := hcs q0 hq0l
      obtain ⟨bb', o', e7, -, k1⟩ := hcs q1 hq1l
      simp only [Option.some.injEq, Addr.mk.injEq] at e7
      obtain ⟨rfl, rfl, -⟩ := e7
      clear hcs
      generalize atZ cs q0 = y0 at *
      generalize atZ cs q1 = y1 at *
      have p3 : (0 : Int) ≤ q0 := by omega
      have p4 : (q0 : Int) < (cs.length : Int) := by omega
      have p5 : (0 : Int) ≤ q1 := by omega
      have p6 : (q1 : Int) < (cs.length : Int) := by omega
      have H4 := Lib.hid (held_plus H3.out (gs := [(bb, o + q0, .int .i64 y0), (bb, o + q1, .int .i64 y1)]) ⟨k0, k1, trivial⟩ ⟨hbl, hbl, trivial⟩)
      simp only [newFs, List.cons_append, List.nil_append, List.append_nil] at H4
      clear k0 k1 H3
      obtain ⟨b1, hb1⟩ : ∃ b, ((q0 : Int) == (q1 : Int)) = b := ⟨_, rfl⟩
      obtain ⟨b2, hb2⟩ : ∃ b, (y0 == y1) = b := ⟨_, rfl⟩
      rw [hb1, hb2] at HPM
      have hn1 : ((q0 : Int) != (q1 : Int)) = !b1 := by rw [← hb1]; rfl
      obtain ⟨x0, x1, x2, x3, x4, x5, x6, x7, _⟩ := H4.out.1
      cases b1 <;> simp only [Bool.not_true, Bool.not_false] at hn1
      · cases b2
        · go_wp2_with fail
          refine regionD (S := fun W => Held _ W [(w2.heap.size, 0, .int .i64 (q0)), (w2.heap.size, 1, .int .i64 (q1)), (w.heap.size, 0, .slice A ns.length c), (w.heap.size, 1, .slice A2 ls.length c2), (w.heap.size, 2, .slice A3 rs.length c3), (w.heap.size, 3, .slice A4 ds.length c4), (bb, o + q0, .int .i64 (y0)), (bb, o + q1, .int .i64 (y1))]) (by kernel_rfl) H4.out.drew ?_
          iterate 18 (refine takeT (v := ?_) rfl (by kernel_rfl) (by kernel_rfl) (by kernel_rfl) ?_ ?_; rotate_left; (first | (refine Or.inr ⟨by rfl, ?_⟩; with_reducible rfl) | (refine Or.inl ⟨by rfl, fun W hS => detRes_value (w' := W) ?_ hS⟩; obtain ⟨x0, x1, x2, x3, x4, x5, x6, x7, _⟩ := hS.1; go_simp; first | done | with_reducible rfl) | fail); (simp only [Act.put, List.setIfInBounds_toArray, List.set_cons_zero, List.set_cons_succ]))
          refine doneD (by kernel_rfl) fun wH5 HS => ?_
          have H5 := Lib.hid HS; clear HS
          try clear x0 x1 x2 x3 x4 x5 x6 x7
          obtain ⟨x0, x1, x2, x3, x4, x5, x6, x7, _⟩ := H5.out.1
          go_wp2_with fail
          exact ⟨⟨m + 1, by omega, by go_num, fun j hj => by
            by_cases e : j = m
            · rw [e]; exact HPM.out
            · exact HNO.out j (by omega), H5.out.only (fun ⟨_, _, a, b, c, d, _⟩ => ⟨a, b, c, d, trivial⟩) (fun ⟨_, _, a, b, c, d, _⟩ => ⟨a, b, c, d, trivial⟩)⟩, by simp [intOf]; omega⟩
        · go_wp2_with fail
          refine regionD (S := fun W => Held _ W [(w2.heap.size, 0, .int .i64 (q0)), (w2.heap.size, 1, .int .i64 (q1)), (w.heap.size, 0, .slice A ns.length c), (w.heap.size, 1, .slice A2 ls.length c2), (w.heap.size, 2, .slice A3 rs.length c3), (w.heap.size, 3, .slice A4 ds.length c4), (bb, o + q0, .int .i64 (y0)), (bb, o + q1, .int .i64 (y1))]) (by kernel_rfl) H4.out.drew ?_
          iterate 18 (refine takeT (v := ?_) rfl (by kernel_rfl) (by kernel_rfl) (by kernel_rfl) ?_ ?_; rotate_left; (first | (refine Or.inr ⟨by rfl, ?_⟩; with_reducible rfl) | (refine Or.inl ⟨by rfl, fun W hS => detRes_value (w' := W) ?_ hS⟩; obtain ⟨x0, x1, x2, x3, x4, x5, x6, x7, _⟩ := hS.1; go_simp; first | done | with_reducible rfl) | fail); (simp only [Act.put, List.setIfInBounds_toArray, List.set_cons_zero, List.set_cons_succ]))
          refine doneD (by kernel_rfl) fun wH5 HS => ?_
          have H5 := Lib.hid HS; clear HS
          try clear x0 x1 x2 x3 x4 x5 x6 x7
          obtain ⟨x0, x1, x2, x3, x4, x5, x6, x7, _⟩ := H5.out.1
          go_wp2_with fail
          go_ret
          exact ⟨ret_int (firstI_at HNO.out HPM.out ls.length hlt).symm, H5.out.below⟩
      · go_wp2_with fail
        refine regionD (S := fun W => Held _ W [(w2.heap.size, 0, .int .i64 (q0)), (w2.heap.size, 1, .int .i64 (q1)), (w.heap.size, 0, .slice A ns.length c), (w.heap.size, 1, .slice A2 ls.length c2), (w.heap.size, 2, .slice A3 rs.length c3), (w.heap.size, 3, .slice A4 ds.length c4), (bb, o + q0, .int .i64 (y0)), (bb, o + q1, .int .i64 (y1))]) (by kernel_rfl) H4.out.drew ?_
        iterate 18 (refine takeT (v := ?_) rfl (by kernel_rfl) (by kernel_rfl) (by kernel_rfl) ?_ ?_; rotate_left; (first | (refine Or.inr ⟨by rfl, ?_⟩; with_reducible rfl) | (refine Or.inl ⟨by rfl, fun W hS => detRes_value (w' := W) ?_ hS⟩; obtain ⟨x0, x1, x2, x3, x4, x5, x6, x7, _⟩ := hS.1; go_simp; first | done | with_reducible rfl) | fail); (simp only [Act.put, List.setIfInBounds_toArray, List.set_cons_zero, List.set_cons_succ]))
        refine doneD (by kernel_rfl) fun wH5 HS => ?_
        have H5 := Lib.hid HS; clear HS
        try clear x0 x1 x2 x3 x4 x5 x6 x7
        obtain ⟨x0, x1, x2, x3, x4, x5, x6, x7, _⟩ := H5.out.1
        go_wp2_with fail
        exact ⟨⟨m + 1, by omega, by go_num, fun j hj => by
          by_cases e : j = m
          · rw [e]; exact HPM.out
          · exact HNO.out j (by omega), H5.out.only (fun ⟨_, _, a, b, c, d, _⟩ => ⟨a, b, c, d, trivial⟩) (fun ⟨_, _, a, b, c, d, _⟩ => ⟨a, b, c, d, trivial⟩)⟩, by simp [intOf]; omega⟩
    · obtain rfl : m = ls.length := by omega
      go_wp2_with fail
      go_ret
      exact ⟨ret_int (firstI_none _ HNO.out).symm, H1.out.below⟩

set_option maxRecDepth 100000 in
theorem specL13 (n : Int) (xs : List Int) (v : Value) (w : World) (hv : Seq w v xs) : Calls Tryz.prog 158 #[.int .i64 n, v] w (BoolIs (decide ((xs.length : Int) = n) && inR xs 0 5) w) := by
  have hlen := hv.len
  obtain ⟨A, c, rfl, _, _, hcs⟩ := hv.form
  clear hv
  have HA := Lib.hid (show inR xs 0 5 = xs.all fun x => inB x 0 5 from rfl)
  have HIN := Lib.hid (fun x w => specIn x 0 5 w)
  generalize inR xs 0 5 = r at *
  go_enter Tryz.func158, Tryz.ntmps158
  go_wp2_with fail
  go_loopw [5] (fun i wr => ∃ m : Nat, m ≤ xs.length ∧ i = .int .i64 m ∧ ((xs.take m).all fun x => inB x 0 5) = true ∧ wr = w) (fun i _ => xs.length - (intOf i).toNat)
  case atStart => exact ⟨0, Nat.zero_le _, rfl, by simp, rfl⟩
  case round =>
    obtain ⟨m, hm, rfl, ha, rfl⟩ := hrel
    have HAM := Lib.hid ha; clear ha
    by_cases hlt : m < xs.length
    · obtain ⟨bb, o, rfl, hbl, hc⟩ := hcs m hlt
      have HT := Lib.hid (show xs.take (m + 1) = xs.take m ++ [atZ xs m] from by rw [List.take_succ_eq_append_getElem hlt, atZ_get hlt])
      have HM := Lib.hid (show atZ xs m ∈ xs from by rw [← atZ_get hlt]; exact List.getElem_mem hlt)
      have hz1 : (m : Int) < (xs.length : Int) := by omega
      have hz2 : (0 : Int) ≤ m := by omega
      have HX := Lib.hid (HIN.out (atZ xs m))
      generalize hz : atZ xs m = z at *
      clear hz
      by_cases hb : inB z 0 5 = true
      · have HBT := Lib.hid hb
        rw [hb] at HX
        clear hb
        go_wp2_with fail
        refine (HX.out _).mono ?_
        rintro e w' ⟨rfl, rfl⟩
        go_wp2_with fail
        exact ⟨⟨m + 1, by omega, by go_num, by rw [HT.out, List.all_append, HAM.out]; simp [HBT.out], trivial⟩, by simp [intOf]; omega⟩
      · have HBT := Lib.hid hb
        rw [Bool.not_eq_true] at hb
        rw [hb] at HX
        clear hb
        go_wp2_with fail
        refine (HX.out _).mono ?_
        rintro e w' ⟨rfl, rfl⟩
        go_wp2_with fail
        go_ret
        exact ⟨ret_bool (by rw [HA.out, show (xs.all fun x => inB x 0 5) = false from List.all_eq_false.2 ⟨z, HM.out, HBT.out⟩]; simp), Below.refl _ _⟩
    · obtain rfl : m = xs.length := by omega
      have HX := Lib.hid (show r = true from by rw [HA.out, ← HAM.out, List.take_length])
      clear HA HAM hcs hm hlt
      obtain ⟨N, hN⟩ : ∃ N : Int, (xs.length : Int) = N := ⟨_, rfl⟩
      by_cases hq : (xs.length : Int) = n
      · subst hq
        go_wp2_with fail
        go_ret
        exact ⟨ret_bool (by simp [HX.out]), Below.refl _ _⟩
      · have HNQ := Lib.hid hq
        go_wp2_with fail
        go_ret
        exact ⟨ret_bool (by have h1 := HX.out; have h2 := HNQ.out; simp_all), Below.refl _ _⟩

set_option maxRecDepth 100000 in
set_option maxHeartbeats 4000000 in
theorem specClashOf (ns ls : List Nd) (cs : List Int) (vn vl v : Value) (w : World) (hn : Prs w vn ns) (hl : Prs w vl ls) (hv : Seq w v cs) :
    Calls Tryz.prog 159 #[.agg #[vn, vl], v] w (IntIs (clashW ns ls cs) w) := by
  have HN := Lib.hid hn
  have HL := Lib.hid hl
  have HV := Lib.hid hv
  have HW := Lib.hid (fun w h1 h2 => specWhole ns ls vn vl w h1 h2)
  have HF := Lib.hid (fun w h1 h2 => specFacesL ns ls vn vl w h1 h2)
  have HL13 := Lib.hid (fun n w h => specL13 n cs v w h)
  unfold BoolIs at HW HL13
  unfold FacesNew at HF
  have HLD := Lib.hid (show listB ns ls 0 5 cs = (wholeB ns ls && (decide (cs.length = (wF ns ls).length) && inR cs 0 5)) from rfl)
  have HNO := Lib.hid (fun (h : listB ns ls 0 5 cs = false) => show clashW ns ls cs = -1 from if_neg (by rw [h]; simp))
  have H0 := Lib.hid (held_pair w vn vl 32)
  obtain ⟨A, c, rfl⟩ := prs_form2 hn
  obtain ⟨A2, c2, rfl⟩ := prs_form2 hl
  obtain ⟨A3, c3, rfl⟩ := seq_form2 hv
  clear hn hl hv
  by_cases hh : wholeB ns ls = true
  · obtain ⟨hw, hl0, h20, h12⟩ := whole_win hh
    have HSI := Lib.hid (fun w h1 h2 => specSides9 ns ls (.slice A ns.length c) (.slice A2 ls.length c2) w h1 h2 hh)
    unfold IntsNew at HSI
    have h40 := wF_len (ns := ns) (ls := ls)
    have HAL := Lib.hid (atW_len ns ls)
    have HG := Lib.hid (show gA ns ls = atW ns ls ∧ gL ns ls = ls from ⟨if_pos hh, if_pos hh⟩)
    have HQ := Lib.hid (fun (hlist : listB ns ls 0 5 cs = true) d (hd : d < (atW ns ls).length) => (show ∃ q : Nat, atZ (atW ns ls) d = (q : Int) ∧ q < cs.length from by
      have e : gA ns ls = atW ns ls := if_pos hh
      rw [← e] at hd ⊢
      obtain ⟨q, h, hlt⟩ := g_face hd
      exact ⟨q, h, by rw [(listB_parts hlist).2.1]; exact hlt⟩))
    have HX := Lib.hid (fun (hlist : listB ns ls 0 5 cs = true) => show clashW ns ls cs = firstI (clashP (atW ns ls) cs) ls.length from by
      rw [clashW, if_pos hlist, HG.out.1, HG.out.2])
    have HP := Lib.hid (fun k => show clashP (atW ns ls) cs k = ((!(atZ (atW ns ls) (2 * k) == atZ (atW ns ls) (2 * k + 1))) && (atZ cs (atZ (atW ns ls) (2 * k)).toNat == atZ cs (atZ (atW ns ls) (2 * k + 1)).toNat)) from rfl)
    rw [hh] at HW HLD
    rw [Bool.true_and] at HLD
    clear hh hw HG
    generalize clashW ns ls cs = res at *
    generalize listB ns ls 0 5 cs = lb at *
    generalize clashP (atW ns ls) cs = p at *
    generalize inR cs 0 5 = r at *
    generalize atW ns ls = ds at *
    generalize wF ns ls = rs at *
    go_enter Tryz.func159, Tryz.ntmps159
    go_wp2_with fail
    refine (HW.out _ (HN.out.step H0.out.below) (HL.out.step H0.out.below)).mono ?_
    rintro e w1 ⟨rfl, hb⟩
    have H1 := Lib.hid (H0.out.step hb); clear hb H0
    obtain ⟨x0, x1, _⟩ := H1.out.1
    go_wp2_with fail
    refine (HF.out _ (HN.out.step H1.out.below) (HL.out.step H1.out.below)).mono ?_
    rintro e w2 ⟨vf, rfl, hf, hb⟩
    obtain ⟨a, c4, rfl⟩ := faces_form hf
    have H2 := Lib.hid (H1.out.step hb); clear hb hf x0 x1 H1
    go_wp2_with fail
    refine (HL13.out _ _ (HV.out.step H2.out.below)).mono ?_
    have hdq : decide ((cs.length : Int) = (rs.length : Int)) = decide (cs.length = rs.length) := by
      by_cases e : cs.length = rs.length
      · simp [e]
      · rw [decide_eq_false e, decide_eq_false (by omega)]
    rw [hdq, ← HLD.out]
    clear hdq
    rintro e w3 ⟨rfl, hb⟩
    have H3 := Lib.hid (H2.out.step hb); clear hb H2
    cases lb
    · have HX2 := Lib.hid (HNO.out (by first | rfl | trivial))
      go_wp2_with fail
      go_ret
      exact ⟨ret_int HX2.out.symm, H3.out.below⟩
    · have HX2 := Lib.hid (HX.out (by first | rfl | trivial))
      replace HQ := Lib.hid (HQ.out (by first | rfl | trivial))
      clear HX HNO HLD
      obtain ⟨x0, x1, _⟩ := H3.out.1
      go_wp2_with fail
      refine (HSI.out _ (HN.out.step H3.out.below) (HL.out.step H3.out.below)).mono ?_
      rintro e w4 ⟨vd, rfl, hm, hb⟩
      have H4 := Lib.hid (H3.out.step hb)
      obtain ⟨gl, cl, rfl⟩ := hm.some_ (by rw [HAL.out]; omega)
      have HLB := Lib.hid (hm.mono (b' := w.heap.size + 1) (by have := H3.out.2.1.1; omega))
      clear hb hm H3 x0 x1
      have hla := HAL.out
      obtain ⟨N, hN⟩ : ∃ N, N = ds.length := ⟨_, rfl⟩
      rw [← hN] at HLB hla ⊢
      have HNN := Lib.hid hN; clear hN
      clear hla
      go_wp2_with fail
      go_loopw [6] (fun i wr => ∃ m : Nat, m ≤ ls.length ∧ i = .int .i64 m ∧ (∀ j, j < m → p j = false) ∧ Ints wr (w.heap.size + 1) (.slice (some ⟨gl, 0, none⟩) N cl) ds ∧ Held w wr [(w.heap.size, 0, .slice A ns.length c), (w.heap.size, 1, .slice A2 ls.length c2)]) (fun i _ => ls.length - (intOf i).toNat)
      case atStart => exact ⟨0, Nat.zero_le _, rfl, fun j h => by omega, HLB.out, H4.out⟩
      case round =>
        clear HLB H4
        obtain ⟨m, hm, rfl, hno, hlab, hh⟩ := hrel
        have HLB := Lib.hid hlab; clear hlab
        have HNO := Lib.hid hno; clear hno
        have H1 := Lib.hid hh; clear hh
        obtain ⟨x0, x1, _⟩ := H1.out.1
        by_cases hlt : m < ls.length
        · obtain ⟨z0, -, hgl0, -, -⟩ := HLB.out.at_ (j := 2 * m) (by have := HAL.out; omega)
          obtain ⟨z1, -, -, -, -⟩ := HLB.out.at_ (j := 2 * m + 1) (by have := HAL.out; omega)
          have HPM := Lib.hid (HP.out m)
          obtain ⟨q0, hq0, hq0l⟩ := HQ.out (2 * m) (by have := HAL.out; omega)
          obtain ⟨q1, hq1, hq1l⟩ := HQ.out (2 * m + 1) (by have := HAL.out; omega)
          rw [hq0, hq1, Int.toNat_natCast, Int.toNat_natCast] at HPM
          obtain ⟨e0, he0⟩ : ∃ e0, e0 = 2 * m := ⟨_, rfl⟩
          obtain ⟨e1, he1⟩ : ∃ e1, e1 = e0 + 1 := ⟨_, rfl⟩
          rw [hq0] at z0
          rw [hq1] at z1
          rw [← he0] at z0 z1
          rw [← he1] at z1
          have hN2 : e1 < N := by have := HAL.out; have := HNN.out; omega
          clear hq0 hq1
          obtain ⟨A6, c6, e6, -, -, hcs⟩ := (HV.out.step H1.out.below).form
          simp only [Value.slice.injEq] at e6
          obtain ⟨rfl, -, -⟩ := e6
          obtain ⟨bb, o, rfl, hbl, k0⟩ := hcs q0 hq0l
          obtain ⟨bb', o', e7, -, k1⟩ := hcs q1 hq1l
          simp only [Option.some.injEq, Addr.mk.injEq] at e7
          obtain ⟨rfl, rfl, -⟩ := e7
          clear hcs
          generalize atZ cs q0 = y0 at *
          generalize atZ cs q1 = y1 at *
          have p1 : (0 : Int) ≤ e0 := by omega
          have p2 : (e0 : Int) < (N : Int) := by omega
          have p3 : (0 : Int) ≤ e1 := by omega
          have p4 : (e1 : Int) < (N : Int) := by omega
          have p5 : (0 : Int) ≤ m := by omega
          have p6 : (m : Int) < (ls.length : Int) := by omega
          have p7 : (0 : Int) ≤ q0 := by omega
          have p8 : (q0 : Int) < (cs.length : Int) := by omega
          have p9 : (0 : Int) ≤ q1 := by omega
          have p10 : (q1 : Int) < (cs.length : Int) := by omega
          have r1 : 2 * (m : Int) = (e0 : Int) := by omega
          have r2 : (e0 : Int) + 1 = (e1 : Int) := by omega
          have r3 : IntKind.i64.wrap (2 * (m : Int)) = (e0 : Int) := by rw [IntWalk.i64_in _ (by omega)]; omega
          have r4 : IntKind.i64.wrap ((e0 : Int) + 1) = (e1 : Int) := by rw [IntWalk.i64_in _ (by omega)]; omega
          have r5 : IntKind.i64.wrap (e0 : Int) = (e0 : Int) := IntWalk.i64_in _ (by omega)
          have r6 : IntKind.i64.wrap (e1 : Int) = (e1 : Int) := IntWalk.i64_in _ (by omega)
          clear he0 he1
          obtain ⟨b1, hb1⟩ : ∃ b, ((q0 : Int) == (q1 : Int)) = b := ⟨_, rfl⟩
          obtain ⟨b2, hb2⟩ : ∃ b, (y0 == y1) = b := ⟨_, rfl⟩
          rw [hb1, hb2] at HPM
          have hn1 : ((q0 : Int) != (q1 : Int)) = !b1 := by rw [← hb1]; rfl
          have S1 := Lib.hid (Held.start H1.out.1 H1.out.2.1)
          have H2 := Lib.hid (held_plus S1.out (gs := [(gl, e0, .int .i64 (q0 : Int)), (gl, e1, .int .i64 (q1 : Int)), (bb, o + q0, .int .i64 y0), (bb, o + q1, .int .i64 y1)]) ⟨z0, z1, k0, k1, trivial⟩ ⟨hgl0, hgl0, hbl, hbl, trivial⟩)
          simp only [newFs, List.cons_append, List.nil_append, List.append_nil] at H2
          clear k0 k1 S1 x0 x1 z0 z1
          obtain ⟨x0, x1, x2, x3, x4, x5, _⟩ := H2.out.1
          cases b1 <;> simp only [Bool.not_true, Bool.not_false] at hn1
          · cases b2
            · go_wp2_with fail
              refine regionD (S := fun W => Held _ W [(w.heap.size, 0, .slice A ns.length c), (w.heap.size, 1, .slice A2 ls.length c2), (gl, e0, .int .i64 (q0)), (gl, e1, .int .i64 (q1)), (bb, o + q0, .int .i64 (y0)), (bb, o + q1, .int .i64 (y1))]) (by kernel_rfl) H2.out.drew ?_
              iterate 32 (refine takeT (v := ?_) rfl (by kernel_rfl) (by kernel_rfl) (by kernel_rfl) ?_ ?_; rotate_left; (first | (refine Or.inr ⟨by rfl, ?_⟩; with_reducible rfl) | (refine Or.inl ⟨by rfl, fun W hS => detRes_value (w' := W) ?_ hS⟩; obtain ⟨x0, x1, x2, x3, x4, x5, _⟩ := hS.1; go_simp; first | done | with_reducible rfl) | fail); (simp only [Act.put, List.setIfInBounds_toArray, List.set_cons_zero, List.set_cons_succ]))
              refine doneD (by kernel_rfl) fun wH5 HS => ?_
              have H5 := Lib.hid HS; clear HS
              try clear x0 x1 x2 x3 x4 x5
              obtain ⟨x0, x1, x2, x3, x4, x5, _⟩ := H5.out.1
              go_wp2_with fail
              exact ⟨⟨m + 1, by omega, by go_num, fun j hj => by
                by_cases e : j = m
                · rw [e]; exact HPM.out
                · exact HNO.out j (by omega), HLB.out.step H5.out.below, H1.out.step H5.out.below⟩, by simp [intOf]; omega⟩
            · go_wp2_with fail
              refine regionD (S := fun W => Held _ W [(w.heap.size, 0, .slice A ns.length c), (w.heap.size, 1, .slice A2 ls.length c2), (gl, e0, .int .i64 (q0)), (gl, e1, .int .i64 (q1)), (bb, o + q0, .int .i64 (y0)), (bb, o + q1, .int .i64 (y1))]) (by kernel_rfl) H2.out.drew ?_
              iterate 32 (refine takeT (v := ?_) rfl (by kernel_rfl) (by kernel_rfl) (by kernel_rfl) ?_ ?_; rotate_left; (first | (refine Or.inr ⟨by rfl, ?_⟩; with_reducible rfl) | (refine Or.inl ⟨by rfl, fun W hS => detRes_value (w' := W) ?_ hS⟩; obtain ⟨x0, x1, x2, x3, x4, x5, _⟩ := hS.1; go_simp; first | done | with_reducible rfl) | fail); (simp only [Act.put, List.setIfInBounds_toArray, List.set_cons_zero, List.set_cons_succ]))
              refine doneD (by kernel_rfl) fun wH5 HS => ?_
              have H5 := Lib.hid HS; clear HS
              try clear x0 x1 x2 x3 x4 x5
              obtain ⟨x0, x1, x2, x3, x4, x5, _⟩ := H5.out.1
              go_wp2_with fail
              go_ret
              exact ⟨ret_int (by rw [HX2.out]; exact (firstI_at HNO.out HPM.out ls.length hlt).symm), (H1.out.step H5.out.below).below⟩
          · go_wp2_with fail
            refine regionD (S := fun W => Held _ W [(w.heap.size, 0, .slice A ns.length c), (w.heap.size, 1, .slice A2 ls.length c2), (gl, e0, .int .i64 (q0)), (gl, e1, .int .i64 (q1)), (bb, o + q0, .int .i64 (y0)), (bb, o + q1, .int .i64 (y1))]) (by kernel_rfl) H2.out.drew ?_
            iterate 32 (refine takeT (v := ?_) rfl (by kernel_rfl) (by kernel_rfl) (by kernel_rfl) ?_ ?_; rotate_left; (first | (refine Or.inr ⟨by rfl, ?_⟩; with_reducible rfl) | (refine Or.inl ⟨by rfl, fun W hS => detRes_value (w' := W) ?_ hS⟩; obtain ⟨x0, x1, x2, x3, x4, x5, _⟩ := hS.1; go_simp; first | done | with_reducible rfl) | fail); (simp only [Act.put, List.setIfInBounds_toArray, List.set_cons_zero, List.set_cons_succ]))
            refine doneD (by kernel_rfl) fun wH5 HS => ?_
            have H5 := Lib.hid HS; clear HS
            try clear x0 x1 x2 x3 x4 x5
            obtain ⟨x0, x1, x2, x3, x4, x5, _⟩ := H5.out.1
            go_wp2_with fail
            exact ⟨⟨m + 1, by omega, by go_num, fun j hj => by
              by_cases e : j = m
              · rw [e]; exact HPM.out
              · exact HNO.out j (by omega), HLB.out.step H5.out.below, H1.out.step H5.out.below⟩, by simp [intOf]; omega⟩
        · obtain rfl : m = ls.length := by omega
          go_wp2_with fail
          go_ret
          exact ⟨ret_int (by rw [HX2.out]; exact (firstI_none _ HNO.out).symm), H1.out.below⟩
  · have HX := Lib.hid (show clashW ns ls cs = -1 from HNO.out (by rw [HLD.out]; simp [hh]))
    rw [show wholeB ns ls = false by simpa using hh] at HW
    clear hh HLD HNO
    generalize clashW ns ls cs = res at *
    go_enter Tryz.func159, Tryz.ntmps159
    go_wp2_with fail
    refine (HW.out _ (HN.out.step H0.out.below) (HL.out.step H0.out.below)).mono ?_
    rintro e w1 ⟨rfl, hb⟩
    have H1 := Lib.hid (H0.out.step hb); clear hb H0
    go_wp2_with fail
    go_ret
    exact ⟨ret_int HX.out.symm, H1.out.below⟩
end Go.Proofs.YtepacoacalhdcaaGreat

namespace Go.Proofs.YtepacoacalhdcaaGreat
open Go.RowKit
set_option linter.unusedVariables false
set_option linter.unusedSimpArgs false

def innP (o : Int) (k : Nat) : Bool := !((k : Int) == o)

noncomputable def innW (ns ls : List Nd) : List Int := fltN (innP (outW ns ls)) (wF ns ls).length

theorem innW_len (ns ls : List Nd) : (innW ns ls).length ≤ 40 := by
  have := fltN_len (innP (outW ns ls)) (wF ns ls).length
  have := wF_len (ns := ns) (ls := ls)
  unfold innW
  omega

theorem innW_at {ns ls : List Nd} {i : Nat} (h : i < (innW ns ls).length) : ∃ k : Nat, atZ (innW ns ls) i = (k : Int) ∧ k < (wF ns ls).length := by
  obtain ⟨k, h1, h2, _⟩ := (fltN_mem (innP (outW ns ls)) (wF ns ls).length (atZ (innW ns ls) i)).1 (by rw [← atZ_get h]; exact List.getElem_mem h)
  exact ⟨k, h1, h2⟩

/-- The least of some numbers, or 3001. -/
def mnX (hs l : List Int) : Int := l.foldl (fun a x => min a (atZ hs x.toNat)) 3001

theorem mnX_app (hs l : List Int) (x : Int) : mnX hs (l ++ [x]) = min (mnX hs l) (atZ hs x.toNat) := by unfold mnX; rw [List.foldl_append]; rfl

def olX (hs l : List Int) : List Int := l.filter fun x => atZ hs x.toNat == mnX hs l

theorem mnX_le (hs : List Int) : ∀ (n : Nat) (l : List Int), l.length = n → ∀ x, x ∈ l → mnX hs l ≤ atZ hs x.toNat
  | 0, l, h, x, hx => by
    rw [List.length_eq_zero_iff] at h
    subst h
    simp at hx
  | n + 1, l, h, x, hx => by
    obtain ⟨t, y, rfl⟩ : ∃ t y, l = t ++ [y] := ⟨l.dropLast, l.getLast (by intro e; subst e; simp at h), (List.dropLast_concat_getLast _).symm⟩
    rw [mnX_app]
    rw [List.mem_append] at hx
    rcases hx with hx | hx
    · have := mnX_le hs n t (by simpa using h) x hx
      omega
    · have e : x = y := by simpa using hx
      subst e
      omega

theorem olX_less {hs l : List Int} {x : Int} (h : atZ hs x.toNat < mnX hs l) : mnX hs (l ++ [x]) = atZ hs x.toNat ∧ olX hs (l ++ [x]) = [x] := by
  have e : mnX hs (l ++ [x]) = atZ hs x.toNat := by rw [mnX_app]; omega
  refine ⟨e, ?_⟩
  unfold olX
  rw [e, List.filter_append, List.filter_eq_nil_iff.2 (fun y hy => by
    have := mnX_le hs _ l rfl y hy
    simp only [beq_iff_eq]
    omega)]
  simp

theorem olX_same {hs l : List Int} {x : Int} (h : atZ hs x.toNat = mnX hs l) : mnX hs (l ++ [x]) = mnX hs l ∧ olX hs (l ++ [x]) = olX hs l ++ [x] := by
  have e : mnX hs (l ++ [x]) = mnX hs l := by rw [mnX_app]; omega
  refine ⟨e, ?_⟩
  unfold olX
  rw [e, List.filter_append]
  simp [h]

theorem olX_more {hs l : List Int} {x : Int} (h : mnX hs l < atZ hs x.toNat) : mnX hs (l ++ [x]) = mnX hs l ∧ olX hs (l ++ [x]) = olX hs l := by
  have e : mnX hs (l ++ [x]) = mnX hs l := by rw [mnX_app]; omega
  refine ⟨e, ?_⟩
  unfold olX
  rw [e, List.filter_append, List.filter_cons_of_neg (by simp; omega)]
  simp

def mnF (hs : List Int) (p : Nat → Bool) : Nat → Int
  | 0 => 3001
  | n + 1 => if p n = true then min (mnF hs p n) (atZ hs n) else mnF hs p n

theorem mnF_succ (hs : List Int) (p : Nat → Bool) (n : Nat) : mnF hs p (n + 1) = if p n = true then min (mnF hs p n) (atZ hs n) else mnF hs p n := rfl

theorem mnX_flt (hs : List Int) (p : Nat → Bool) : ∀ n, mnX hs (fltN p n) = mnF hs p n
  | 0 => rfl
  | n + 1 => by
    rw [fltN_succ, mnF_succ]
    by_cases hp : p n = true
    · rw [if_pos hp, if_pos hp, mnX_app, mnX_flt hs p n]
      rfl
    · rw [if_neg hp, if_neg hp, mnX_flt hs p n]

theorem flt_filter (p : Nat → Bool) (q : Int → Bool) : ∀ n, (fltN p n).filter q = fltN (fun k => p k && q (k : Int)) n
  | 0 => rfl
  | n + 1 => by
    rw [fltN_succ, fltN_succ, ← flt_filter p q n]
    by_cases hp : p n = true
    · rw [if_pos hp, List.filter_append]
      by_cases hq : q (n : Int) = true
      · simp [hp, hq]
      · simp [hp, hq]
    · rw [if_neg hp, if_neg (by simp [hp])]

noncomputable def oldW (ns ls : List Nd) (hs : List Int) : List Int := if listB ns ls 0 3000 hs = true then olX hs (innW ns ls) else []

theorem oldW_len (ns ls : List Nd) (hs : List Int) : (oldW ns ls hs).length ≤ 40 := by
  unfold oldW
  split
  · have := innW_len ns ls
    have := List.length_filter_le (fun x => atZ hs x.toNat == mnX hs (innW ns ls)) (innW ns ls)
    unfold olX
    omega
  · simp

theorem oldW_is {ns ls : List Nd} {hs : List Int} (h : listB ns ls 0 3000 hs = true) : oldW ns ls hs = fltN (fun k => innP (outW ns ls) k && (atZ hs k == mnF hs (innP (outW ns ls)) (wF ns ls).length)) (wF ns ls).length := by
  unfold oldW olX innW
  rw [if_pos h, flt_filter, mnX_flt]
  rfl

set_option maxRecDepth 100000 in
set_option maxHeartbeats 2000000 in
theorem implInner (ns ls : List Nd) (v1 v2 v3 v4 : Value) (rs : List (List Int)) (ds : List Int) (B : Nat) (w : World) (hn : Prs w v1 ns) (hl : Prs w v2 ls) (hf : Faces w B v3 rs) (ha : Ints w B v4 ds) (hok : RowsOk ns ls rs) :
    Calls Tryz.prog 75 #[.agg #[v1, v2, v3, v4]] w (IntsNew (fltN (innP (firstI (outP ns ls rs) rs.length)) rs.length) w) := by
  have h40 := hok.1
  have HS := Lib.hid (fun W hb => implOuter ns ls v1 v2 v3 v4 rs ds B W (hn.step hb) (hl.step hb) (hf.step hb) (ha.step hb) hok)
  unfold IntIs at HS
  obtain ⟨A, c, rfl⟩ := prs_form2 hn
  obtain ⟨A2, c2, rfl⟩ := prs_form2 hl
  obtain ⟨A3, c3, rfl⟩ := faces_form hf
  obtain ⟨A4, c4, rfl⟩ := ints_form ha
  have H0 := Lib.hid (heldG w (.slice A ns.length c) (.slice A2 ls.length c2) (.slice A3 rs.length c3) (.slice A4 ds.length c4) 98)
  obtain ⟨i0, hi, hz0, hz1, hz2⟩ := info_parts infoInt
  have HI := Lib.hid (And.intro hi (And.intro hz0 (And.intro hz1 hz2))); clear hi hz0 hz1 hz2
  clear hn hl hf ha hok
  generalize firstI (outP ns ls rs) rs.length = o at *
  have HP := Lib.hid (fun k => show innP o k = !((k : Int) == o) from rfl)
  have HU := Lib.hid (fltN_succ (innP o))
  have HLN := Lib.hid (fltN_len (innP o))
  have HZ := Lib.hid (show fltN (innP o) 0 = [] from rfl)
  generalize fltN (innP o) = X at *
  generalize innP o = p at *
  obtain ⟨x0, x1, x2, x3, _⟩ := H0.out.1
  go_enter Tryz.func75, Tryz.ntmps75
  go_wp2_with fail
  refine (HS.out _ H0.out.below).mono ?_
  rintro e w1 ⟨rfl, hb⟩
  have H1 := Lib.hid (H0.out.step hb); clear hb x0 x1 x2 x3 H0
  obtain ⟨x0, x1, x2, x3, _⟩ := H1.out.1
  obtain ⟨z0, z1, z2, z3, _⟩ := H1.out.2.1
  go_wp2_with fail
  clear x0 x1 x2 x3 z0 z1 z2 z3
  go_loopw [4, 12] (fun v i wr => ∃ m : Nat, m ≤ rs.length ∧ i = .int .i64 m ∧ Ints wr (w.heap.size + 1) v (X m) ∧ Held w wr [(w.heap.size, 0, .slice A ns.length c), (w.heap.size, 1, .slice A2 ls.length c2), (w.heap.size, 2, .slice A3 rs.length c3), (w.heap.size, 3, .slice A4 ds.length c4)]) (fun _ i _ => rs.length - (intOf i).toNat)
  case atStart => exact ⟨0, Nat.zero_le _, rfl, by rw [HZ.out]; exact Ints.made _ _ _ rfl H1.out.2.1.1, H1.out.alloc _⟩
  case round =>
    clear H1
    obtain ⟨m, hm, rfl, hown, hh⟩ := hrel
    have HO2 := Lib.hid hown; clear hown
    have H2 := Lib.hid hh; clear hh
    by_cases hlt : m < rs.length
    · have q1 : (0 : Int) ≤ m := by omega
      have q2 : (m : Int) < (rs.length : Int) := by omega
      have HUM := Lib.hid (HU.out m)
      have hln := HLN.out m
      have HPM := Lib.hid (HP.out m)
      obtain ⟨b, hb⟩ : ∃ b, ((m : Int) == o) = b := ⟨_, rfl⟩
      rw [hb] at HPM
      rw [HPM.out] at HUM
      have hn1 : ((m : Int) != o) = !b := by rw [← hb]; rfl
      cases b <;> simp only [Bool.not_true, Bool.not_false] at hn1
      · obtain ⟨hi, hz0, hz1, hz2⟩ := HI.out
        have hsz1 := H2.out.2.1.1
        go_wp2_with (at_builtin; refine wpList_append_own _ rfl _ _ 27 rfl (w.heap.size + 1) 3 i0 (.int .i64 0) 1 8 Tryz.underlying27 hi hz0 hz1 hz2 rfl (by decide) _ _ _ rfl (World.ownsRow.alloc HO2.out _) ⟨_, 0, none⟩ 1 1 [.int .i64 m] rfl rfl ?c1 ?c2 ?c3 ?c4 ?c5 ?_)
        case c1 => exact cell_one_new _ _ _
        case c2 => simp [Value.oneCell']
        case c3 => unfold maxLen; omega
        case c4 => omega
        case c5 => simp <;> omega
        intro v' w5 hown hgrow _
        have H5 := Lib.hid (H2.out.stepB (B := w.heap.size + 1) ⟨Nat.lt_succ_self _, Nat.lt_succ_self _, Nat.lt_succ_self _, Nat.lt_succ_self _, trivial⟩ (grown_below HO2.out hsz1 hgrow) (Nat.le_succ _))
        have HO5 := Lib.hid (Ints.more hown); clear hown hgrow
        go_wp2_with fail
        exact ⟨⟨m + 1, by omega, by go_num, by rw [HUM.out]; exact HO5.out, H5.out⟩, by simp [intOf]; omega⟩
      · go_wp2_with fail
        exact ⟨⟨m + 1, by omega, by go_num, by rw [HUM.out]; exact HO2.out, H2.out⟩, by simp [intOf]; omega⟩
    · obtain rfl : m = rs.length := by omega
      go_wp2_with fail
      go_ret
      exact ⟨_, rfl, HO2.out.mono (Nat.le_succ _), H2.out.below⟩
end Go.Proofs.YtepacoacalhdcaaGreat
