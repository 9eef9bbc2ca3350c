/-
  DualSpanning, of the model and of the program.
-/
import Derived.Test.YtmcbbjobjogkmaaGreatUfT
import Derived.Test.YtmcbbjobjogkmaaGreatG3
import Derived.Test.YtmcbbjobjogkmaaGreatWalkS
import Derived.Test.YtmcbbjobjogkmaaGreatGlsF
namespace Go.Proofs.YtmcbbjobjogkmaaGreat
open Go.RowKit Go.Maps
set_option linter.unusedVariables false
set_option linter.unusedSimpArgs false

noncomputable def dspL (ns ls : List Nd) (xs : List Int) : List Int := if spanB ns ls xs = true then fltN (fun k => !xs.contains (k : Int)) ls.length else []

theorem dspL_len (ns ls : List Nd) (xs : List Int) : (dspL ns ls xs).length ≤ 20 := by
  unfold dspL
  split
  · rename_i hh
    have := fltN_len (fun k => !xs.contains (k : Int)) ls.length
    unfold spanB at hh
    simp only [Bool.and_eq_true] at hh
    obtain ⟨-, -, h, -⟩ := whole_win hh.1
    omega
  · simp

theorem span_parts {ns ls : List Nd} {xs : List Int} (h : spanB ns ls xs = true) : LstP ls.length xs ∧ ls.length ≤ 20 := by
  unfold spanB at h
  simp only [Bool.and_eq_true] at h
  obtain ⟨-, -, h20, -⟩ := whole_win h.1
  exact ⟨(lstB_iff _ _).1 h.2.1, h20⟩

theorem LstP.asc {n : Nat} {xs : List Int} (h : LstP n xs) {i : Nat} : ∀ d, i + (d + 1) < xs.length → atZ xs i < atZ xs (i + (d + 1))
  | 0, hj => h.up i hj
  | d + 1, hj => by
    have h1 := LstP.asc h (i := i) d (by omega)
    have h2 := h.up (i + (d + 1)) (by omega)
    have e : i + (d + 1) + 1 = i + (d + 1 + 1) := by omega
    rw [e] at h2
    omega

/-- The first a of a list lie below k, the others do not. -/
def PtrP (xs : List Int) (a k : Nat) : Prop := a ≤ xs.length ∧ (∀ i, i < a → atZ xs i < (k : Int)) ∧ ∀ i, a ≤ i → i < xs.length → (k : Int) ≤ atZ xs i

theorem contains_at {xs : List Int} {x : Int} : xs.contains x = true ↔ ∃ i, i < xs.length ∧ atZ xs i = x := by
  rw [List.contains_iff_mem]
  constructor
  · intro h
    obtain ⟨i, hi, e⟩ := List.getElem_of_mem h
    exact ⟨i, hi, by rw [← atZ_get hi]; exact e⟩
  · rintro ⟨i, hi, rfl⟩
    rw [← atZ_get hi]
    exact List.getElem_mem hi

theorem ptr_yes {n : Nat} {xs : List Int} {a k : Nat} (hl : LstP n xs) (h : PtrP xs a k) (ha : a < xs.length) (he : atZ xs a = (k : Int)) : (!xs.contains (k : Int)) = false ∧ PtrP xs (a + 1) (k + 1) := by
  refine ⟨by rw [contains_at.2 ⟨a, ha, he⟩]; rfl, by omega, fun i hi => ?_, fun i hi hix => ?_⟩
  · by_cases e : i = a
    · subst e; omega
    · have := h.2.1 i (by omega); omega
  · have := hl.asc (i := a) (i - a - 1) (by omega)
    rw [show a + (i - a - 1 + 1) = i by omega] at this
    omega

theorem ptr_no {n : Nat} {xs : List Int} {a k : Nat} (hl : LstP n xs) (h : PtrP xs a k) (he : a < xs.length → atZ xs a ≠ (k : Int)) : (!xs.contains (k : Int)) = true ∧ PtrP xs a (k + 1) := by
  have hgt : ∀ i, a ≤ i → i < xs.length → (k : Int) < atZ xs i := fun i hi hix => by
    have h1 := h.2.2 a (Nat.le_refl _) (by omega)
    have h2 := he (by omega)
    by_cases e : i = a
    · subst e; omega
    · have := hl.asc (i := a) (i - a - 1) (by omega)
      rw [show a + (i - a - 1 + 1) = i by omega] at this
      omega
  refine ⟨?_, h.1, fun i hi => by have := h.2.1 i hi; omega, fun i hi hix => by have := hgt i hi hix; omega⟩
  cases hc : xs.contains (k : Int)
  · rfl
  · obtain ⟨i, hi, e⟩ := contains_at.1 hc
    by_cases hia : i < a
    · have := h.2.1 i hia; omega
    · have := hgt i (by omega) hi; omega

theorem containsS {w : World} {v : Value} {xs : List Int} (x : Int) (h : Seq w v xs) (hlen : xs.length ≤ 1048576) :
    Calls Tryz.prog 63 #[v, .int .i64 x] w (BoolIs (xs.contains x) w) := by
  obtain ⟨A, c, rfl⟩ := seq_form2 h
  by_cases h0 : xs.length = 0
  · obtain rfl : xs = [] := List.eq_nil_of_length_eq_zero h0
    exact containsNil x w A c
  · obtain ⟨b, o, rfl, hbl, hcs⟩ := seq_at h 0 (by omega)
    have := Any.slices_Contains_int Tryz.lays107 b o xs.length c xs x w (Nat.le_refl _) (by omega) (fun j hj => by rw [hcs j hj]; rfl)
    rw [List.take_length] at this
    exact this.mono fun e w' h => ⟨h.1, by rw [h.2]; exact Below.refl _ _⟩

set_option maxRecDepth 100000 in
set_option maxHeartbeats 4000000 in
theorem specDsp (ns ls : List Nd) (xs : List Int) (vn vl v : Value) (w : World) (hn : Prs w vn ns) (hl : Prs w vl ls) (hv : Seq w v xs) :
    Calls Tryz.prog 27 #[.agg #[vn, vl], v] w (IntsNew (dspL ns ls xs) w) := by
  have HSP := Lib.hid (fun w h1 h2 h3 => specSpan ns ls xs vn vl v w h1 h2 h3)
  have HN := Lib.hid hn
  have HL := Lib.hid hl
  have HV := Lib.hid hv
  have hnl := hn.len
  have hll := hl.len
  have hvl := hv.len
  have H0 := Lib.hid (held_pair w vn vl 32)
  obtain ⟨A, c, rfl⟩ := prs_form2 hn
  obtain ⟨A2, c2, rfl⟩ := prs_form2 hl
  obtain ⟨A3, c3, rfl⟩ := seq_form2 hv
  clear hn hl hv
  obtain ⟨i0, hi, hz0, hz1, hz2⟩ := info_parts infoInt
  have HI := Lib.hid (And.intro hi (And.intro hz0 (And.intro hz1 hz2))); clear hi hz0 hz1 hz2
  have H1 := Lib.hid (H0.out.alloc (.cells #[] 3))
  have HO1 := Lib.hid (Ints.made (w.alloc (.cells #[.slice A ns.length c, .slice A2 ls.length c2] 32)) (w.heap.size + 1) (w.heap.size + 1) (by simp) (Nat.le_refl _))
  clear H0
  cases hh : spanB ns ls xs
  · have HR := Lib.hid (show dspL ns ls xs = [] from by unfold dspL; rw [hh]; rfl)
    rw [HR.out]
    rw [hh] at HSP
    clear hh
    obtain ⟨x0, x1, _⟩ := H1.out.1
    go_enter Tryz.func27, Tryz.ntmps27
    go_wp2_with fail
    refine (HSP.out _ (HN.out.step H1.out.below) (HL.out.step H1.out.below) (HV.out.step H1.out.below)).mono ?_
    rintro e w2 ⟨rfl, hb⟩
    have H2 := Lib.hid (H1.out.step hb)
    have HO2 := Lib.hid (HO1.out.step hb); clear hb
    go_wp2_with fail
    go_ret
    exact ⟨_, rfl, HO2.out.mono (Nat.le_succ _), H2.out.below⟩
  · obtain ⟨hlp, hl20⟩ := span_parts hh
    have HLP := Lib.hid hlp; clear hlp
    have HR := Lib.hid (show dspL ns ls xs = fltN (fun k => !xs.contains (k : Int)) ls.length from by unfold dspL; rw [hh]; rfl)
    rw [HR.out]
    rw [hh] at HSP
    clear hh HR
    have HST := Lib.hid (fltN_succ (fun k => !xs.contains (k : Int)))
    have HZ := Lib.hid (show fltN (fun k => !xs.contains (k : Int)) 0 = [] from rfl)
    have HLN := Lib.hid (fltN_len (fun k => !xs.contains (k : Int)))
    generalize hX : fltN (fun k => !xs.contains (k : Int)) = X at *
    clear hX
    obtain ⟨x0, x1, _⟩ := H1.out.1
    go_enter Tryz.func27, Tryz.ntmps27
    go_wp2_with fail
    refine (HSP.out _ (HN.out.step H1.out.below) (HL.out.step H1.out.below) (HV.out.step H1.out.below)).mono ?_
    rintro e w2 ⟨rfl, hb⟩
    have H2 := Lib.hid (H1.out.step hb)
    have HO2 := Lib.hid (HO1.out.step hb); clear hb x0 x1
    go_wp2_with fail
    go_loopw [5, 6, 7] (fun vo va i wr => ∃ k a : Nat, k ≤ ls.length ∧ i = .int .i64 k ∧ va = .int .i64 a ∧ PtrP xs a k ∧ Ints wr (w.heap.size + 1) vo (X k) ∧ Held w wr [(w.heap.size, 0, .slice A ns.length c), (w.heap.size, 1, .slice A2 ls.length c2)]) (fun _ _ i _ => ls.length - (intOf i).toNat)
    case atStart => exact ⟨0, 0, Nat.zero_le _, rfl, rfl, ⟨Nat.zero_le _, fun i hi => by omega, fun i _ hi => (HLP.out.inr i hi).1⟩, by rw [HZ.out]; exact HO2.out, H2.out⟩
    case round =>
      clear H1 H2 HO1 HO2
      obtain ⟨k, a, hk, rfl, rfl, hpt, hox, hh⟩ := hrel
      have HPT := Lib.hid hpt
      have hax := hpt.1
      clear hpt
      have HO := Lib.hid hox; clear hox
      have H3 := Lib.hid hh; clear hh
      have hsz := H3.out.2.1.1
      by_cases hlt : k < ls.length
      · have p1 : (0 : Int) ≤ k := by omega
        have p2 : (k : Int) < (ls.length : Int) := by omega
        have p3 : (0 : Int) ≤ a := by omega
        have hxl := HLN.out k
        have HS := Lib.hid (HST.out k)
        obtain ⟨x0, x1, _⟩ := H3.out.1
        by_cases ha : a < xs.length
        · have p4 : (a : Int) < (xs.length : Int) := by omega
          obtain ⟨bb, oo, rfl, hbl, hcs⟩ := seq_at (HV.out.step H3.out.below) a ha
          have c0 := hcs a ha
          clear hcs
          by_cases he : atZ xs a = (k : Int)
          · obtain ⟨h1, h2⟩ := ptr_yes HLP.out HPT.out ha he
            have HX2 := Lib.hid (show X (k + 1) = X k from by rw [HS.out, h1]; rfl)
            have HP2 := Lib.hid h2
            rw [he] at c0
            clear h1 h2 he
            go_wp2_with fail
            exact ⟨⟨k + 1, a + 1, by omega, by go_num, by go_num, HP2.out, by rw [HX2.out]; exact HO.out, H3.out⟩, by simp [intOf]; omega⟩
          · obtain ⟨h1, h2⟩ := ptr_no HLP.out HPT.out fun _ => he
            have HX2 := Lib.hid (show X (k + 1) = X k ++ [(k : Int)] from by rw [HS.out, h1]; rfl)
            have HP2 := Lib.hid h2
            have e1 : (atZ xs a == (k : Int)) = false := by rw [beq_eq_false_iff_ne]; exact he
            have e2 : decide (atZ xs a = (k : Int)) = false := by simp [he]
            clear h1 h2 he
            generalize atZ xs a = z at *
            obtain ⟨hi, hz0, hz1, hz2⟩ := HI.out
            go_wp2_with (at_builtin; refine wpList_append_own _ rfl _ _ 26 rfl (w.heap.size + 1) 3 i0 (.int .i64 0) 1 8 Tryz.underlying26 hi hz0 hz1 hz2 rfl (by decide) _ _ _ rfl (World.ownsRow.alloc HO.out _) ⟨_, 0, none⟩ 1 1 [.int .i64 k] rfl rfl ?c1 ?c2 ?c3 ?c4 ?c5 ?_)
            try (case c1 => exact cell_one_new _ _ _)
            case c2 => simp [Value.oneCell']
            case c3 => unfold maxLen; omega
            case c4 => omega
            case c5 => first | omega | (simp <;> omega)
            intro v' w5 hown hgrow _
            have H5 := Lib.hid (H3.out.stepB (B := w.heap.size + 1) ⟨Nat.lt_succ_self _, Nat.lt_succ_self _, trivial⟩ (grown_below HO.out hsz hgrow) (Nat.le_succ _))
            have HO5 := Lib.hid (Ints.more hown); clear hown hgrow
            go_wp2_with fail
            exact ⟨⟨k + 1, a, by omega, by go_num, rfl, HP2.out, by rw [HX2.out]; exact HO5.out, H5.out⟩, by simp [intOf]; omega⟩
        · have p4 : ¬ (a : Int) < (xs.length : Int) := by omega
          obtain ⟨h1, h2⟩ := ptr_no HLP.out HPT.out fun h => absurd h ha
          have HX2 := Lib.hid (show X (k + 1) = X k ++ [(k : Int)] from by rw [HS.out, h1]; rfl)
          have HP2 := Lib.hid h2
          clear h1 h2
          obtain ⟨hi, hz0, hz1, hz2⟩ := HI.out
          go_wp2_with (at_builtin; refine wpList_append_own _ rfl _ _ 26 rfl (w.heap.size + 1) 3 i0 (.int .i64 0) 1 8 Tryz.underlying26 hi hz0 hz1 hz2 rfl (by decide) _ _ _ rfl (World.ownsRow.alloc HO.out _) ⟨_, 0, none⟩ 1 1 [.int .i64 k] rfl rfl ?c1 ?c2 ?c3 ?c4 ?c5 ?_)
          try (case c1 => exact cell_one_new _ _ _)
          case c2 => simp [Value.oneCell']
          case c3 => unfold maxLen; omega
          case c4 => omega
          case c5 => first | omega | (simp <;> omega)
          intro v' w5 hown hgrow _
          have H5 := Lib.hid (H3.out.stepB (B := w.heap.size + 1) ⟨Nat.lt_succ_self _, Nat.lt_succ_self _, trivial⟩ (grown_below HO.out hsz hgrow) (Nat.le_succ _))
          have HO5 := Lib.hid (Ints.more hown); clear hown hgrow
          go_wp2_with fail
          exact ⟨⟨k + 1, a, by omega, by go_num, rfl, HP2.out, by rw [HX2.out]; exact HO5.out, H5.out⟩, by simp [intOf]; omega⟩
      · obtain rfl : k = ls.length := by omega
        obtain ⟨x0, x1, _⟩ := H3.out.1
        go_wp2_with fail
        go_ret
        exact ⟨_, rfl, HO.out.mono (Nat.le_succ _), H3.out.below⟩

set_option maxRecDepth 100000 in
set_option maxHeartbeats 4000000 in
theorem implDsp (ns ls : List Nd) (xs : List Int) (vn vl v : Value) (w : World) (hn : Prs w vn ns) (hl : Prs w vl ls) (hv : Seq w v xs) :
    Calls Tryz.prog 28 #[.agg #[vn, vl], v] w (IntsNew (dspL ns ls xs) w) := by
  have HSP := Lib.hid (fun w h1 h2 h3 => implSpan ns ls xs vn vl v w h1 h2 h3)
  have HCN := Lib.hid (fun x w h hlen => containsS (w := w) (v := v) (xs := xs) x h hlen)
  have HN := Lib.hid hn
  have HL := Lib.hid hl
  have HV := Lib.hid hv
  have hll := hl.len
  have H0 := Lib.hid (held_pair w vn vl 32)
  obtain ⟨A, c, rfl⟩ := prs_form2 hn
  obtain ⟨A2, c2, rfl⟩ := prs_form2 hl
  obtain ⟨A3, c3, rfl⟩ := seq_form2 hv
  clear hn hl hv
  obtain ⟨i0, hi, hz0, hz1, hz2⟩ := info_parts infoInt
  have HI := Lib.hid (And.intro hi (And.intro hz0 (And.intro hz1 hz2))); clear hi hz0 hz1 hz2
  cases hh : spanB ns ls xs
  · have HR := Lib.hid (show dspL ns ls xs = [] from by unfold dspL; rw [hh]; rfl)
    rw [HR.out]
    rw [hh] at HSP
    clear hh
    obtain ⟨x0, x1, _⟩ := H0.out.1
    go_enter Tryz.func28, Tryz.ntmps28
    go_wp2_with fail
    refine (HSP.out _ (HN.out.step H0.out.below) (HL.out.step H0.out.below) (HV.out.step H0.out.below)).mono ?_
    rintro e w2 ⟨rfl, hb⟩
    have H2 := Lib.hid (H0.out.step hb); clear hb
    go_wp2_with fail
    go_ret
    exact ⟨_, rfl, Ints.nil _ _, H2.out.below⟩
  · obtain ⟨hlp, hl20⟩ := span_parts hh
    have hx20 := hlp.len
    clear hlp
    have HR := Lib.hid (show dspL ns ls xs = fltN (fun k => !xs.contains (k : Int)) ls.length from by unfold dspL; rw [hh]; rfl)
    rw [HR.out]
    rw [hh] at HSP
    clear hh HR
    have HST := Lib.hid (fun k => (show fltN (fun k => !xs.contains (k : Int)) (k + 1) = if (!xs.contains (k : Int)) = true then fltN (fun k => !xs.contains (k : Int)) k ++ [(k : Int)] else fltN (fun k => !xs.contains (k : Int)) k from rfl))
    have HZ := Lib.hid (show fltN (fun k => !xs.contains (k : Int)) 0 = [] from rfl)
    have HLN := Lib.hid (fltN_len (fun k => !xs.contains (k : Int)))
    generalize hX : fltN (fun k => !xs.contains (k : Int)) = X at *
    clear hX
    obtain ⟨x0, x1, _⟩ := H0.out.1
    go_enter Tryz.func28, Tryz.ntmps28
    go_wp2_with fail
    refine (HSP.out _ (HN.out.step H0.out.below) (HL.out.step H0.out.below) (HV.out.step H0.out.below)).mono ?_
    rintro e w2 ⟨rfl, hb⟩
    have H2 := Lib.hid (H0.out.step hb)
    have hs2 := H2.out.2.1.1
    clear hb x0 x1
    have H3 := Lib.hid (H2.out.alloc (.cells #[] 3))
    have HO3 := Lib.hid (Ints.made w2 w2.heap.size (w.heap.size + 1) rfl (by omega))
    obtain ⟨x0, x1, _⟩ := H2.out.1
    go_wp2_with fail
    clear x0 x1
    go_loopw [5, 15] (fun vo i wr => ∃ k : Nat, k ≤ ls.length ∧ i = .int .i64 k ∧ Ints wr (w.heap.size + 1) vo (X k) ∧ Held w wr [(w.heap.size, 0, .slice A ns.length c), (w.heap.size, 1, .slice A2 ls.length c2)]) (fun _ i _ => ls.length - (intOf i).toNat)
    case atStart => exact ⟨0, Nat.zero_le _, rfl, by rw [HZ.out]; exact HO3.out, H3.out⟩
    case round =>
      clear H0 H2 H3 HO3
      obtain ⟨k, hk, rfl, hox, hh⟩ := hrel
      have HO := Lib.hid hox; clear hox
      have H3 := Lib.hid hh; clear hh
      have hsz := H3.out.2.1.1
      by_cases hlt : k < ls.length
      · have p1 : (0 : Int) ≤ k := by omega
        have p2 : (k : Int) < (ls.length : Int) := by omega
        have hxl := HLN.out k
        have HS := Lib.hid (HST.out k)
        have HC := Lib.hid (HCN.out (k : Int) wr (HV.out.step H3.out.below) (by omega))
        generalize xs.contains (k : Int) = b at *
        cases b
        · have HX2 := Lib.hid (show X (k + 1) = X k ++ [(k : Int)] from HS.out)
          go_wp2_with fail
          refine HC.out.mono ?_
          rintro e w4 ⟨rfl, hb⟩
          have H4 := Lib.hid (H3.out.step hb)
          replace HO := Lib.hid (HO.out.step hb); clear hb
          have hsz := H4.out.2.1.1
          obtain ⟨hi, hz0, hz1, hz2⟩ := HI.out
          go_wp2_with (at_builtin; refine wpList_append_own _ rfl _ _ 26 rfl (w.heap.size + 1) 3 i0 (.int .i64 0) 1 8 Tryz.underlying26 hi hz0 hz1 hz2 rfl (by decide) _ _ _ rfl (World.ownsRow.alloc HO.out _) ⟨_, 0, none⟩ 1 1 [.int .i64 k] rfl rfl ?c1 ?c2 ?c3 ?c4 ?c5 ?_)
          try (case c1 => exact cell_one_new _ _ _)
          case c2 => simp [Value.oneCell']
          case c3 => unfold maxLen; omega
          case c4 => omega
          case c5 => first | omega | (simp <;> omega)
          intro v' w5 hown hgrow _
          have H5 := Lib.hid (H4.out.stepB (B := w.heap.size + 1) ⟨Nat.lt_succ_self _, Nat.lt_succ_self _, trivial⟩ (grown_below HO.out hsz hgrow) (Nat.le_succ _))
          have HO5 := Lib.hid (Ints.more hown); clear hown hgrow
          go_wp2_with fail
          exact ⟨⟨k + 1, by omega, by go_num, by rw [HX2.out]; exact HO5.out, H5.out⟩, by simp [intOf]; omega⟩
        · have HX2 := Lib.hid (show X (k + 1) = X k from HS.out)
          go_wp2_with fail
          refine HC.out.mono ?_
          rintro e w4 ⟨rfl, hb⟩
          have H4 := Lib.hid (H3.out.step hb)
          replace HO := Lib.hid (HO.out.step hb); clear hb
          go_wp2_with fail
          exact ⟨⟨k + 1, by omega, by go_num, by rw [HX2.out]; exact HO.out, H4.out⟩, by simp [intOf]; omega⟩
      · obtain rfl : k = ls.length := by omega
        go_wp2_with fail
        go_ret
        exact ⟨_, rfl, HO.out.mono (Nat.le_succ _), H3.out.below⟩
end Go.Proofs.YtmcbbjobjogkmaaGreat
