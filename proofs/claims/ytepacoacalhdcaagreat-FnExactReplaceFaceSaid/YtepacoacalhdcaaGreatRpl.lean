/-
  A face replaced, of the program and of the model.
-/
import Derived.Test.YtepacoacalhdcaaGreatMay
import Derived.Test.YtepacoacalhdcaaGreatCln
namespace Go.Proofs.YtepacoacalhdcaaGreat
open Go.RowKit
set_option linter.unusedVariables false
set_option linter.unusedSimpArgs false

noncomputable def rplB (ns ls : List Nd) (xs : List Int) (f y s : Int) : Bool := mayB ns ls xs f s && (inB y 1 3000 && decide (atZ xs f.toNat ≤ y))

noncomputable def rplL (ns ls : List Nd) (xs : List Int) (f y s : Int) : List Int := if rplB ns ls xs f y s = true then xs.set f.toNat y else xs

theorem rplL_len (ns ls : List Nd) (xs : List Int) (f y s : Int) : (rplL ns ls xs f y s).length = xs.length := by
  unfold rplL
  split
  · exact List.length_set
  · rfl

/-- What is known where a face may be replaced. -/
theorem may_yes {ns ls : List Nd} {xs : List Int} {f s : Int} (h : mayB ns ls xs f s = true) : ∃ k : Nat, f = k ∧ k < xs.length ∧ xs.length ≤ 13 := by
  unfold mayB mayG at h
  simp only [Bool.and_eq_true] at h
  obtain ⟨k, hk, hkl⟩ := idx_nat h.2.1.1
  have hl := (listB_parts h.1).2.1
  have := wF_thirteen ns ls
  exact ⟨k, hk, by omega, by omega⟩

set_option maxRecDepth 100000 in
set_option maxHeartbeats 2000000 in
theorem implRpl (ns ls : List Nd) (xs : List Int) (vn vl v : Value) (f y s : Int) (w : World) (hn : Prs w vn ns) (hl : Prs w vl ls) (hv : Seq w v xs) (hlen : xs.length ≤ 1048576) :
    Calls Tryz.prog 35 #[.agg #[vn, vl], v, .int .i64 f, .int .i64 y, .int .i64 s] w (CwRet (rplB ns ls xs f y s) (rplL ns ls xs f y s) w) := by
  have HCL := Lib.hid (fun W (hb : Below w.heap.size w W) => cloneInts xs v W (hv.step hb) hlen)
  unfold IntsNew at HCL
  have HM := Lib.hid (fun w h1 h2 h3 => implMay ns ls xs vn vl v f s w h1 h2 h3)
  unfold BoolIs at HM
  have HR := Lib.hid (show rplB ns ls xs f y s = (mayB ns ls xs f s && (inB y 1 3000 && decide (atZ xs f.toNat ≤ y))) from rfl)
  have HNO := Lib.hid (fun (h : rplB ns ls xs f y s = false) => (show rplL ns ls xs f y s = xs from if_neg (by rw [h]; simp)))
  have HYE := Lib.hid (fun (h : rplB ns ls xs f y s = true) => (show rplL ns ls xs f y s = xs.set f.toNat y from if_pos h))
  have HIY := Lib.hid (inB_iff y 1 3000)
  have HMY := Lib.hid (fun h => may_yes (ns := ns) (ls := ls) (xs := xs) (f := f) (s := s) h)
  have HN := Lib.hid hn
  have HL := Lib.hid hl
  have HV := Lib.hid hv
  have H0 := Lib.hid (held_pair w vn vl 32)
  obtain ⟨A, c1, rfl⟩ := prs_form2 hn
  obtain ⟨A2, c2, rfl⟩ := prs_form2 hl
  obtain ⟨A3, c3, rfl⟩ := seq_form2 hv
  clear hn hl hv
  generalize rplB ns ls xs f y s = rb at *
  generalize rplL ns ls xs f y s = R at *
  cases hm : mayB ns ls xs f s
  · have HRB := Lib.hid (show rb = false from by rw [HR.out, hm]; rfl)
    rw [hm] at HM
    clear hm HMY HYE HR
    go_enter Tryz.func35, Tryz.ntmps35
    go_wp2_with fail
    refine (HCL.out _ H0.out.below).mono ?_
    rintro e w1 ⟨vo, rfl, ho, hb⟩
    have H1 := Lib.hid (H0.out.step hb)
    have HO1 := Lib.hid (ho.mono (b' := w.heap.size) H0.out.below.size)
    clear hb ho
    obtain ⟨x0, x1, _⟩ := H1.out.1
    go_wp2_with fail
    refine (HM.out _ (HN.out.step H1.out.below) (HL.out.step H1.out.below) (HV.out.step H1.out.below)).mono ?_
    rintro e w2 ⟨rfl, hb⟩
    have H2 := Lib.hid (H1.out.step hb)
    have HO2 := Lib.hid (HO1.out.step hb)
    obtain ⟨ao, co, rfl⟩ := ints_form HO2.out
    clear hb x0 x1 H1 HO1 H0
    have HF := Lib.hid (HNO.out HRB.out)
    go_wp2_with fail
    exact bodyPost_ret (v := .tuple #[.slice ao xs.length co, .bool false]) (by simp [results, Tryz.results35, go_sem]) rfl (by unfold CwRet; exact ⟨⟨.slice ao xs.length co, by rw [HRB.out], by rw [HF.out]; exact HO2.out⟩, H2.out.below⟩)
  · obtain ⟨k, rfl, hk, h13⟩ := HMY.out hm
    rw [hm] at HM HR
    obtain ⟨bx, ox, rfl, hbx, hcx⟩ := seq_at HV.out k hk
    have HXC := Lib.hid (fun W (hb : Below w.heap.size w W) => (hb.cell (p := ⟨bx, ox + k, none⟩) hbx).trans (hcx k hk))
    have z0 : (0 : Int) ≤ k := by omega
    have z1 : (k : Int) < (xs.length : Int) := by omega
    have HK := Lib.hid hk
    rw [Int.toNat_natCast] at HR HYE
    clear hm HMY hbx hcx hk
    generalize atZ xs k = yk at *
    by_cases hy1 : y < 1
    · have HRB := Lib.hid (show rb = false from by rw [HR.out, show inB y 1 3000 = false from by rw [← Bool.not_eq_true, HIY.out]; omega]; rfl)
      clear HR HYE
      go_enter Tryz.func35, Tryz.ntmps35
      go_wp2_with fail
      refine (HCL.out _ H0.out.below).mono ?_
      rintro e w1 ⟨vo, rfl, ho, hb⟩
      have H1 := Lib.hid (H0.out.step hb)
      have HO1 := Lib.hid (ho.mono (b' := w.heap.size) H0.out.below.size)
      clear hb ho
      obtain ⟨x0, x1, _⟩ := H1.out.1
      go_wp2_with fail
      refine (HM.out _ (HN.out.step H1.out.below) (HL.out.step H1.out.below) (HV.out.step H1.out.below)).mono ?_
      rintro e w2 ⟨rfl, hb⟩
      have H2 := Lib.hid (H1.out.step hb)
      have HO2 := Lib.hid (HO1.out.step hb)
      obtain ⟨ao, co, rfl⟩ := ints_form HO2.out
      clear hb x0 x1 H1 HO1 H0
      have HF := Lib.hid (HNO.out HRB.out)
      go_wp2_with fail
      exact bodyPost_ret (v := .tuple #[.slice ao xs.length co, .bool false]) (by simp [results, Tryz.results35, go_sem]) rfl (by unfold CwRet; exact ⟨⟨.slice ao xs.length co, by rw [HRB.out], by rw [HF.out]; exact HO2.out⟩, H2.out.below⟩)
    · by_cases hy2 : 3000 < y
      · have HRB := Lib.hid (show rb = false from by rw [HR.out, show inB y 1 3000 = false from by rw [← Bool.not_eq_true, HIY.out]; omega]; rfl)
        clear HR HYE
        go_enter Tryz.func35, Tryz.ntmps35
        go_wp2_with fail
        refine (HCL.out _ H0.out.below).mono ?_
        rintro e w1 ⟨vo, rfl, ho, hb⟩
        have H1 := Lib.hid (H0.out.step hb)
        have HO1 := Lib.hid (ho.mono (b' := w.heap.size) H0.out.below.size)
        clear hb ho
        obtain ⟨x0, x1, _⟩ := H1.out.1
        go_wp2_with fail
        refine (HM.out _ (HN.out.step H1.out.below) (HL.out.step H1.out.below) (HV.out.step H1.out.below)).mono ?_
        rintro e w2 ⟨rfl, hb⟩
        have H2 := Lib.hid (H1.out.step hb)
        have HO2 := Lib.hid (HO1.out.step hb)
        obtain ⟨ao, co, rfl⟩ := ints_form HO2.out
        clear hb x0 x1 H1 HO1 H0
        have HF := Lib.hid (HNO.out HRB.out)
        go_wp2_with fail
        exact bodyPost_ret (v := .tuple #[.slice ao xs.length co, .bool false]) (by simp [results, Tryz.results35, go_sem]) rfl (by unfold CwRet; exact ⟨⟨.slice ao xs.length co, by rw [HRB.out], by rw [HF.out]; exact HO2.out⟩, H2.out.below⟩)
      · by_cases hy3 : y < yk
        · have HRB := Lib.hid (show rb = false from by rw [HR.out, decide_eq_false (show ¬ yk ≤ y by omega)]; simp)
          clear HR HYE
          go_enter Tryz.func35, Tryz.ntmps35
          go_wp2_with fail
          refine (HCL.out _ H0.out.below).mono ?_
          rintro e w1 ⟨vo, rfl, ho, hb⟩
          have H1 := Lib.hid (H0.out.step hb)
          have HO1 := Lib.hid (ho.mono (b' := w.heap.size) H0.out.below.size)
          clear hb ho
          obtain ⟨x0, x1, _⟩ := H1.out.1
          go_wp2_with fail
          refine (HM.out _ (HN.out.step H1.out.below) (HL.out.step H1.out.below) (HV.out.step H1.out.below)).mono ?_
          rintro e w2 ⟨rfl, hb⟩
          have H2 := Lib.hid (H1.out.step hb)
          have HO2 := Lib.hid (HO1.out.step hb)
          obtain ⟨ao, co, rfl⟩ := ints_form HO2.out
          clear hb x0 x1 H1 HO1 H0
          have x2 := HXC.out _ H2.out.below
          have HF := Lib.hid (HNO.out HRB.out)
          go_wp2_with fail
          exact bodyPost_ret (v := .tuple #[.slice ao xs.length co, .bool false]) (by simp [results, Tryz.results35, go_sem]) rfl (by unfold CwRet; exact ⟨⟨.slice ao xs.length co, by rw [HRB.out], by rw [HF.out]; exact HO2.out⟩, H2.out.below⟩)
        · have HRB := Lib.hid (show rb = true from by rw [HR.out, decide_eq_true (show yk ≤ y by omega), HIY.out.2 (by omega)]; rfl)
          have HF := Lib.hid (HYE.out HRB.out)
          clear HR HYE HNO
          go_enter Tryz.func35, Tryz.ntmps35
          go_wp2_with fail
          refine (HCL.out _ H0.out.below).mono ?_
          rintro e w1 ⟨vo, rfl, ho, hb⟩
          have H1 := Lib.hid (H0.out.step hb)
          have HO1 := Lib.hid (ho.mono (b' := w.heap.size) H0.out.below.size)
          clear hb ho
          obtain ⟨x0, x1, _⟩ := H1.out.1
          go_wp2_with fail
          refine (HM.out _ (HN.out.step H1.out.below) (HL.out.step H1.out.below) (HV.out.step H1.out.below)).mono ?_
          rintro e w2 ⟨rfl, hb⟩
          have H2 := Lib.hid (H1.out.step hb)
          have HO2 := Lib.hid (HO1.out.step hb)
          obtain ⟨ao, co, rfl⟩ := ints_form HO2.out
          clear hb x0 x1 H1 HO1 H0
          have x2 := HXC.out _ H2.out.below
          obtain ⟨g, co', ev⟩ := HO2.out.some_ (by have := HK.out; omega)
          simp only [Value.slice.injEq] at ev
          obtain ⟨rfl, -, rfl⟩ := ev
          obtain ⟨y0, y1, -, -, -⟩ := HO2.out.at_ (j := k) HK.out
          have hown := (HO2.out.own g rfl).1
          go_wp2_with fail
          exact bodyPost_ret (v := .tuple #[.slice (some ⟨g, 0, none⟩) xs.length co, .bool true]) (by simp [results, Tryz.results35, go_sem]) rfl (by unfold CwRet; exact ⟨⟨.slice (some ⟨g, 0, none⟩) xs.length co, by rw [HRB.out], by rw [HF.out]; exact HO2.out.set_ rfl k y⟩, below_setCell H2.out.below hown⟩)

set_option maxRecDepth 100000 in
set_option maxHeartbeats 2000000 in
theorem specRpl (ns ls : List Nd) (xs : List Int) (vn vl v : Value) (f y s : Int) (w : World) (hn : Prs w vn ns) (hl : Prs w vl ls) (hv : Seq w v xs) (hlen : xs.length ≤ 1048576) :
    Calls Tryz.prog 34 #[.agg #[vn, vl], v, .int .i64 f, .int .i64 y, .int .i64 s] w (CwRet (rplB ns ls xs f y s) (rplL ns ls xs f y s) w) := by
  have HM := Lib.hid (fun w h1 h2 h3 => specMay ns ls xs vn vl v f s w h1 h2 h3)
  unfold BoolIs at HM
  have HIN := Lib.hid (fun w => specIn y 1 3000 w)
  have HR := Lib.hid (show rplB ns ls xs f y s = (mayB ns ls xs f s && (inB y 1 3000 && decide (atZ xs f.toNat ≤ y))) from rfl)
  have HNO := Lib.hid (fun (h : rplB ns ls xs f y s = false) => (show rplL ns ls xs f y s = xs from if_neg (by rw [h]; simp)))
  have HYE := Lib.hid (fun (h : rplB ns ls xs f y s = true) => (show rplL ns ls xs f y s = xs.set f.toNat y from if_pos h))
  have HMY := Lib.hid (fun h => may_yes (ns := ns) (ls := ls) (xs := xs) (f := f) (s := s) h)
  have HN := Lib.hid hn
  have HL := Lib.hid hl
  have HV := Lib.hid hv
  have H0 := Lib.hid (held_pair w vn vl 32)
  obtain ⟨A, c1, rfl⟩ := prs_form2 hn
  obtain ⟨A2, c2, rfl⟩ := prs_form2 hl
  obtain ⟨A3, c3, rfl⟩ := seq_form2 hv
  clear hn hl hv
  obtain ⟨i0, hi, hz0, hz1, hz2⟩ := info_parts infoInt
  obtain ⟨v', w', hr, ho, hbb⟩ := run_append_seq (P := Tryz.prog) (ty := 27) (B := w.heap.size) Tryz.underlying27 hi hz0 hz1 hz2 (heap_alloc_new (w.alloc (.cells #[.slice A ns.length c1, .slice A2 ls.length c2] 32)) (.cells #[] 3)) (by simp) ((HV.out.step H0.out.below).step (below_alloc _ (.cells #[] 3))) hlen
  have HO1 := Lib.hid ho
  have H1 := Lib.hid ((H0.out.alloc (.cells #[] 3)).step hbb)
  obtain ⟨ao, co, rfl⟩ := ints_form HO1.out
  have hsz1 : (w.alloc (.cells #[.slice A ns.length c1, .slice A2 ls.length c2] 32)).heap.size = w.heap.size + 1 := by simp
  rw [hsz1] at hr
  clear hi hz0 hz1 hz2 ho hbb hsz1
  generalize rplB ns ls xs f y s = rb at *
  generalize rplL ns ls xs f y s = R at *
  cases hm : mayB ns ls xs f s
  · have HRB := Lib.hid (show rb = false from by rw [HR.out, hm]; rfl)
    rw [hm] at HM
    clear hm HMY HYE HR
    go_enter Tryz.func34, Tryz.ntmps34
    obtain ⟨x0, x1, _⟩ := H1.out.1
    go_wp2_with (at_builtin; refine wpList_append_run rfl _ _ 27 rfl _ w' hr ?_)
    clear hr
    go_wp2_with fail
    refine (HM.out _ (HN.out.step H1.out.below) (HL.out.step H1.out.below) (HV.out.step H1.out.below)).mono ?_
    rintro e w2 ⟨rfl, hb⟩
    have H2 := Lib.hid (H1.out.step hb)
    have HO2 := Lib.hid (HO1.out.step hb)
    clear hb x0 x1 H1 HO1 H0
    have HF := Lib.hid (HNO.out HRB.out)
    go_wp2_with fail
    exact bodyPost_ret (v := .tuple #[.slice ao xs.length co, .bool false]) (by simp [results, Tryz.results34, go_sem]) rfl (by unfold CwRet; exact ⟨⟨.slice ao xs.length co, by rw [HRB.out], by rw [HF.out]; exact HO2.out⟩, H2.out.below⟩)
  · obtain ⟨k, rfl, hk, h13⟩ := HMY.out hm
    rw [hm] at HM HR
    obtain ⟨bx, ox, rfl, hbx, hcx⟩ := seq_at HV.out k hk
    have HXC := Lib.hid (fun W (hb : Below w.heap.size w W) => (hb.cell (p := ⟨bx, ox + k, none⟩) hbx).trans (hcx k hk))
    have z0 : (0 : Int) ≤ k := by omega
    have z1 : (k : Int) < (xs.length : Int) := by omega
    have HK := Lib.hid hk
    rw [Int.toNat_natCast] at HR HYE
    clear hm HMY hbx hcx hk
    generalize atZ xs k = yk at *
    cases hin : inB y 1 3000
    · have HRB := Lib.hid (show rb = false from by rw [HR.out, hin]; rfl)
      rw [hin] at HIN
      clear HR HYE hin
      go_enter Tryz.func34, Tryz.ntmps34
      obtain ⟨x0, x1, _⟩ := H1.out.1
      go_wp2_with (at_builtin; refine wpList_append_run rfl _ _ 27 rfl _ w' hr ?_)
      clear hr
      go_wp2_with fail
      refine (HM.out _ (HN.out.step H1.out.below) (HL.out.step H1.out.below) (HV.out.step H1.out.below)).mono ?_
      rintro e w2 ⟨rfl, hb⟩
      have H2 := Lib.hid (H1.out.step hb)
      have HO2 := Lib.hid (HO1.out.step hb)
      clear hb x0 x1 H1 HO1 H0
      go_wp2_with fail
      refine (HIN.out _).mono ?_
      rintro e w3 ⟨rfl, rfl⟩
      have HF := Lib.hid (HNO.out HRB.out)
      go_wp2_with fail
      exact bodyPost_ret (v := .tuple #[.slice ao xs.length co, .bool false]) (by simp [results, Tryz.results34, go_sem]) rfl (by unfold CwRet; exact ⟨⟨.slice ao xs.length co, by rw [HRB.out], by rw [HF.out]; exact HO2.out⟩, H2.out.below⟩)
    · rw [hin] at HIN HR
      clear hin
      by_cases hy3 : y < yk
      · have HRB := Lib.hid (show rb = false from by rw [HR.out, decide_eq_false (show ¬ yk ≤ y by omega)]; simp)
        clear HR HYE
        go_enter Tryz.func34, Tryz.ntmps34
        obtain ⟨x0, x1, _⟩ := H1.out.1
        go_wp2_with (at_builtin; refine wpList_append_run rfl _ _ 27 rfl _ w' hr ?_)
        clear hr
        go_wp2_with fail
        refine (HM.out _ (HN.out.step H1.out.below) (HL.out.step H1.out.below) (HV.out.step H1.out.below)).mono ?_
        rintro e w2 ⟨rfl, hb⟩
        have H2 := Lib.hid (H1.out.step hb)
        have HO2 := Lib.hid (HO1.out.step hb)
        clear hb x0 x1 H1 HO1 H0
        go_wp2_with fail
        refine (HIN.out _).mono ?_
        rintro e w3 ⟨rfl, rfl⟩
        have x2 := HXC.out _ H2.out.below
        have HF := Lib.hid (HNO.out HRB.out)
        go_wp2_with fail
        exact bodyPost_ret (v := .tuple #[.slice ao xs.length co, .bool false]) (by simp [results, Tryz.results34, go_sem]) rfl (by unfold CwRet; exact ⟨⟨.slice ao xs.length co, by rw [HRB.out], by rw [HF.out]; exact HO2.out⟩, H2.out.below⟩)
      · have HRB := Lib.hid (show rb = true from by rw [HR.out, decide_eq_true (show yk ≤ y by omega)]; rfl)
        have HF := Lib.hid (HYE.out HRB.out)
        clear HR HYE HNO
        go_enter Tryz.func34, Tryz.ntmps34
        obtain ⟨x0, x1, _⟩ := H1.out.1
        go_wp2_with (at_builtin; refine wpList_append_run rfl _ _ 27 rfl _ w' hr ?_)
        clear hr
        go_wp2_with fail
        refine (HM.out _ (HN.out.step H1.out.below) (HL.out.step H1.out.below) (HV.out.step H1.out.below)).mono ?_
        rintro e w2 ⟨rfl, hb⟩
        have H2 := Lib.hid (H1.out.step hb)
        have HO2 := Lib.hid (HO1.out.step hb)
        clear hb x0 x1 H1 HO1 H0
        go_wp2_with fail
        refine (HIN.out _).mono ?_
        rintro e w3 ⟨rfl, rfl⟩
        have x2 := HXC.out _ H2.out.below
        obtain ⟨g, co', ev⟩ := HO2.out.some_ (by have := HK.out; omega)
        simp only [Value.slice.injEq] at ev
        obtain ⟨rfl, -, rfl⟩ := ev
        obtain ⟨y0, y1, -, -, -⟩ := HO2.out.at_ (j := k) HK.out
        have hown := (HO2.out.own g rfl).1
        go_wp2_with fail
        exact bodyPost_ret (v := .tuple #[.slice (some ⟨g, 0, none⟩) xs.length co, .bool true]) (by simp [results, Tryz.results34, go_sem]) rfl (by unfold CwRet; exact ⟨⟨.slice (some ⟨g, 0, none⟩) xs.length co, by rw [HRB.out], by rw [HF.out]; exact HO2.out.set_ rfl k y⟩, below_setCell H2.out.below hown⟩)
end Go.Proofs.YtepacoacalhdcaaGreat
