/-
  The stains of the faces but the wall around, of the program: refused.
-/
import Derived.Test.YtepacoacalhdcaaGreatStf
namespace Go.Proofs.YtepacoacalhdcaaGreat
open Go.RowKit Go.Maps
set_option linter.unusedVariables false
set_option linter.unusedSimpArgs false

set_option maxRecDepth 100000 in
set_option maxHeartbeats 4000000 in
theorem implStfNo (ns ls : List Nd) (xs : List Tr) (vn vl v : Value) (w : World) (hn : Prs w vn ns) (hl : Prs w vl ls) (hv : Trs w v xs) (hlb : lgtB ns ls xs = false) :
    Calls Tryz.prog 118 #[.agg #[vn, vl], v] w (StfNo w) := by
  have HST := Lib.hid (fun w hv => implStains xs v w hv)
  unfold BoolIs at HST
  have HN := Lib.hid hn
  have HL := Lib.hid hl
  have HV := Lib.hid hv
  have hxl := hv.len
  have H0 := Lib.hid ((held_pair w vn vl 32).new2 (w.heap.size + 1) (by simp) [.slice none 0 0, .slice none 0 0, .slice none 0 0, .slice none 0 0] 98)
  simp only [newFs, List.cons_append, List.nil_append, List.append_nil] at H0
  have K0 := Lib.hid (Gls4.new (w.alloc (.cells #[vn, vl] 32)) (w.heap.size + 1) (by simp) 98 (.slice none 0 0) (.slice none 0 0) (.slice none 0 0) (.slice none 0 0))
  have h40 := wF_len (ns := ns) (ls := ls)
  unfold StfNo
  obtain ⟨A, c, rfl⟩ := prs_form2 hn
  obtain ⟨A2, c2, rfl⟩ := prs_form2 hl
  obtain ⟨A3, c3, rfl⟩ := hv.form2
  clear hn hl hv
  by_cases hh : wholeB ns ls = true
  · have HGY := Lib.hid (fun w h1 h2 => implGlassYes ns ls (.slice A ns.length c) (.slice A2 ls.length c2) w h1 h2 hh)
    unfold GlassYes at HGY
    have hWF : wF ns ls = facesL ns ls := if_pos hh
    rw [← hWF] at HGY
    have HLB := Lib.hid (show (decide (xs.length = (wF ns ls).length) && stsB xs) = false from by unfold lgtB at hlb; rw [hh] at hlb; simpa using hlb)
    generalize stsB xs = sb at *
    clear hWF hh hlb
    generalize atW ns ls = ds at *
    generalize wF ns ls = rs at *
    go_enter Tryz.func118, Tryz.ntmps118
    obtain ⟨x0, x1, x2, x3, x4, x5, _⟩ := H0.out.1
    go_wp2_with fail
    clear x0 x1 x2 x3 x4 x5
    refine (HGY.out _ (HN.out.step H0.out.below) (HL.out.step H0.out.below)).mono ?_
    rintro e w1 ⟨vf, va, rfl, hf, ha, hb⟩
    have hsz : ((w.alloc (.cells #[.slice A ns.length c, .slice A2 ls.length c2] 32)).alloc (.cells #[.slice none 0 0, .slice none 0 0, .slice none 0 0, .slice none 0 0] 98)).heap.size = w.heap.size + 1 + 1 := by simp
    rw [hsz] at hf ha
    have H1 := Lib.hid (H0.out.step hb)
    have K := Lib.hid (K0.out.step hb)
    have HFI1 := Lib.hid (FI.mk hf ha)
    obtain ⟨A7, c7, rfl⟩ := faces_form hf
    obtain ⟨A8, c8, rfl⟩ := ints_form ha
    have hs1 := H1.out.below.size
    have hs1' : w.heap.size + 1 + 1 ≤ w1.heap.size := by have := hb.size; rw [hsz] at this; exact this
    have H2 := Lib.hid (H1.out.new2 w1.heap.size rfl [.slice A ns.length c, .slice A2 ls.length c2, .slice A7 rs.length c7, .slice A8 ds.length c8] 98)
    simp only [newFs, List.cons_append, List.nil_append, List.append_nil] at H2
    have bg := below_alloc w1 (.cells #[.slice A ns.length c, .slice A2 ls.length c2, .slice A7 rs.length c7, .slice A8 ds.length c8] 98)
    have K := Lib.hid (K.out.step bg)
    have HFI := Lib.hid (HFI1.out.step bg)
    clear hb hf ha hsz HFI1 H1 K0 bg
    obtain ⟨x0, x1, x2, x3, x4, x5, x6, x7, x8, x9, _⟩ := H2.out.1
    by_cases hq : xs.length = rs.length
    · have e2 : ((xs.length : Int) != (rs.length : Int)) = false := by simp [hq]
      obtain rfl : sb = false := by have := HLB.out; simpa [hq] using this
      have HQ := Lib.hid hq; clear hq
      go_wp2_with fail
      refine (HST.out _ (HV.out.step H2.out.below)).mono ?_
      rintro e w2 ⟨rfl, hb⟩
      have K := Lib.hid (K.out.step hb)
      have H2 := Lib.hid (H2.out.step hb)
      clear hb x0 x1 x2 x3 x4 x5 x6 x7 x8 x9
      obtain ⟨x0, x1, x2, x3, x4, x5, x6, x7, x8, x9, _⟩ := H2.out.1
      have f0 := K.out.frozen 0
      have f1 := K.out.frozen 1
      have f2 := K.out.frozen 2
      have f3 := K.out.frozen 3
      go_wp2_with fail
      obtain ⟨r0, r1, r2, r3⟩ := (K.out.setAll (.slice none 0 0) (.slice none 0 0) (.slice none 0 0) (.slice none 0 0)).cells
      exact bodyPost_ret (v := .tuple #[.agg #[.slice none 0 0, .slice none 0 0, .slice none 0 0, .slice none 0 0], .map none]) (by simp [results, Tryz.results118, go_sem, r0, r1, r2, r3]) rfl ⟨rfl, below_set4 H2.out.below (Nat.le_succ _)⟩
    · have e2 : ((xs.length : Int) != (rs.length : Int)) = true := by simp; omega
      have f0 := K.out.frozen 0
      have f1 := K.out.frozen 1
      have f2 := K.out.frozen 2
      have f3 := K.out.frozen 3
      go_wp2_with fail
      obtain ⟨r0, r1, r2, r3⟩ := (K.out.setAll (.slice none 0 0) (.slice none 0 0) (.slice none 0 0) (.slice none 0 0)).cells
      exact bodyPost_ret (v := .tuple #[.agg #[.slice none 0 0, .slice none 0 0, .slice none 0 0, .slice none 0 0], .map none]) (by simp [results, Tryz.results118, go_sem, r0, r1, r2, r3]) rfl ⟨rfl, below_set4 H2.out.below (Nat.le_succ _)⟩
  · have HGY := Lib.hid (fun w h1 h2 => implGlassNo ns ls (.slice A ns.length c) (.slice A2 ls.length c2) w h1 h2 (by simpa using hh))
    unfold GlassNo at HGY
    clear hh hlb
    go_enter Tryz.func118, Tryz.ntmps118
    obtain ⟨x0, x1, x2, x3, x4, x5, _⟩ := H0.out.1
    go_wp2_with fail
    clear x0 x1 x2 x3 x4 x5
    refine (HGY.out _ (HN.out.step H0.out.below) (HL.out.step H0.out.below)).mono ?_
    rintro e w1 ⟨rfl, hb⟩
    have H1 := Lib.hid (H0.out.step hb)
    have K := Lib.hid (K0.out.step hb)
    have hs1 := H1.out.below.size
    have H2 := Lib.hid (H1.out.new2 w1.heap.size rfl [.slice none 0 0, .slice none 0 0, .slice none 0 0, .slice none 0 0] 98)
    simp only [newFs, List.cons_append, List.nil_append, List.append_nil] at H2
    have bg := below_alloc w1 (.cells #[.slice none 0 0, .slice none 0 0, .slice none 0 0, .slice none 0 0] 98)
    have K := Lib.hid (K.out.step bg)
    clear hb H1 K0 bg
    obtain ⟨x0, x1, x2, x3, x4, x5, x6, x7, x8, x9, _⟩ := H2.out.1
    have f0 := K.out.frozen 0
    have f1 := K.out.frozen 1
    have f2 := K.out.frozen 2
    have f3 := K.out.frozen 3
    go_wp2_with fail
    obtain ⟨r0, r1, r2, r3⟩ := (K.out.setAll (.slice none 0 0) (.slice none 0 0) (.slice none 0 0) (.slice none 0 0)).cells
    exact bodyPost_ret (v := .tuple #[.agg #[.slice none 0 0, .slice none 0 0, .slice none 0 0, .slice none 0 0], .map none]) (by simp [results, Tryz.results118, go_sem, r0, r1, r2, r3]) rfl ⟨rfl, below_set4 H2.out.below (Nat.le_succ _)⟩
end Go.Proofs.YtepacoacalhdcaaGreat
