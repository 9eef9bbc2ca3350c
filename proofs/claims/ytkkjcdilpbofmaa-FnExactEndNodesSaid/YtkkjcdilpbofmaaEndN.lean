/-
  EndNodes, of the model and of the program.
-/
import Derived.Test.YtkkjcdilpbofmaaAro
import Derived.Test.YtkkjcdilpbofmaaSNs
namespace Go.Proofs.Ytkkjcdilpbofmaa
open Go.RowKit
set_option linter.unusedVariables false
set_option linter.unusedSimpArgs false

theorem insL_len (lt : Int → Int → Bool) (d : Int) (l : List Int) : (insL lt d l).length = l.length + 1 := insM_len lt d l _ (Nat.le_refl _)
/-- As many darts begin at a node as leads end there. -/
theorem aro_deg {ns ls : List Nd} (hw : winB ns ls = true) (k : Nat) : ∀ n, n ≤ ls.length → (aroL ns ls k (2 * n)).length = (atL ls k n).length
  | 0, _ => rfl
  | n + 1, h => by
    have ih := aro_deg hw k n (by omega)
    obtain ⟨p, q, e, hpq, _⟩ := leadOkB_spec (((winB_iff ns ls).1 hw).2.2 n (by omega)).1
    have d0 : dF ls (2 * n) = p := by
      unfold dF
      rw [if_neg (by omega), show 2 * n / 2 = n by omega, e]
    have d1 : dF ls (2 * n + 1) = q := by
      unfold dF
      rw [if_pos (by omega), show (2 * n + 1) / 2 = n by omega, e]
    have ea : atL ls k (n + 1) = if (atN ls n).x = k ∨ (atN ls n).y = k then atL ls k n ++ [(n : Int)] else atL ls k n := rfl
    have e1 : aroL ns ls k (2 * n + 1 + 1) = if dF ls (2 * n + 1) = k then insL (ltD ns ls k) ((2 * n + 1 : Nat) : Int) (aroL ns ls k (2 * n + 1)) else aroL ns ls k (2 * n + 1) := rfl
    have e0 : aroL ns ls k (2 * n + 1) = if dF ls (2 * n) = k then insL (ltD ns ls k) ((2 * n : Nat) : Int) (aroL ns ls k (2 * n)) else aroL ns ls k (2 * n) := rfl
    rw [show 2 * (n + 1) = 2 * n + 1 + 1 by omega, e1, e0, ea, d0, d1, e]
    by_cases hp : (p : Int) = k
    · have hq : ¬ (q : Int) = k := by omega
      rw [if_neg hq, if_pos hp, if_pos (.inl hp), insL_len, ih]; simp
    · by_cases hq : (q : Int) = k
      · rw [if_pos hq, if_neg hp, if_pos (.inr hq), insL_len, ih]; simp
      · rw [if_neg hq, if_neg hp, if_neg (fun h => h.elim hp hq), ih]

def endB (ns ls : List Nd) (k : Int) : Bool := decide (degI ns ls k = 1)
def endsI (ns ls : List Nd) : List Int := fltL (endB ns ls) ns.length
theorem endB_has {ns ls : List Nd} {k : Int} (h : endB ns ls k = true) : hasB ns ls k = true := by
  unfold endB degI at h
  by_cases hh : hasB ns ls k = true
  · exact hh
  · rw [if_neg hh] at h; simp at h
theorem endsI_none {ns ls : List Nd} (h : ¬ winB ns ls = true) : endsI ns ls = [] := fltL_none _ (fun k => by
  by_cases hk : endB ns ls k = true
  · obtain ⟨_, _, _, hw, _⟩ := hasB_nat (endB_has hk); exact absurd hw h
  · simpa using hk) _
theorem endsI_len (ns ls : List Nd) : (endsI ns ls).length ≤ 20 := by
  by_cases h : winB ns ls = true
  · have := fltL_len (endB ns ls) ns.length
    have := ((winB_iff ns ls).1 h).1.1.2
    unfold endsI; omega
  · rw [endsI_none h]; simp
theorem endB_aro {ns ls : List Nd} {k : Nat} (hw : winB ns ls = true) (hk : k < ns.length) : endB ns ls k = decide ((aroL ns ls k (2 * ls.length)).length = 1) := by
  have hh : hasB ns ls k = true := by
    unfold hasB
    rw [hw, (idxB_iff _ _).2 (by omega)]; rfl
  unfold endB degI atsI
  rw [if_pos hh, if_pos hh, aro_deg hw k _ (Nat.le_refl _), decide_eq_decide]
  omega

set_option maxRecDepth 100000 in
set_option maxHeartbeats 1000000 in
theorem implEndN (ns ls : List Nd) (vn vl : Value) (w : World) (hn : Prs w vn ns) (hl : Prs w vl ls) :
    Calls Try.prog 31 #[.agg #[vn, vl]] w (IntsNew (endsI ns ls) w) := by
  have hlen := hn.len
  have HN := Lib.hid hn
  have HL := Lib.hid hl
  obtain ⟨A, c, rfl⟩ := prs_form2 hn
  obtain ⟨A2, c2, rfl⟩ := prs_form2 hl
  clear hn hl
  obtain ⟨i0, hi, hz0, hz1, hz2⟩ := info_parts infoInt
  have HI := Lib.hid (And.intro hi (And.intro hz0 (And.intro hz1 hz2))); clear hi hz0 hz1 hz2
  have H0 := Lib.hid (held_pair w (.slice A ns.length c) (.slice A2 ls.length c2) 38)
  have HR := Lib.hid (show endsI ns ls = fltL (endB ns ls) ns.length from rfl)
  have HST := Lib.hid (fun n => (show fltL (endB ns ls) (n + 1) = if endB ns ls n = true then fltL (endB ns ls) n ++ [(n : Int)] else fltL (endB ns ls) n from rfl))
  have HA := Lib.hid (fun (m : Nat) w h1 h2 => implDeg ns ls (.slice A ns.length c) (.slice A2 ls.length c2) m w h1 h2)
  have HB12 := Lib.hid (fun (m : Nat) (h : endB ns ls m = true) => (show ns.length ≤ 12 from by obtain ⟨_, _, _, _, h, _⟩ := hasB_nat (endB_has h); exact h))
  have HE := Lib.hid (fun (m : Nat) => (show endB ns ls m = (degI ns ls m == 1) from by unfold endB; rw [Bool.eq_iff_iff]; simp))
  generalize endsI ns ls = r at *
  generalize endB ns ls = p at *
  generalize degI ns ls = dg at *
  go_enter Try.func31, Try.ntmps31
  go_wp2_with fail
  go_loopw [3, 9] (fun v i wr => ∃ m : Nat, m ≤ ns.length ∧ i = .int .i64 m ∧ Ints wr (w.heap.size + 1) v (fltL p m) ∧ Held w wr [(w.heap.size, 0, .slice A ns.length c), (w.heap.size, 1, .slice A2 ls.length c2)]) (fun _ i _ => ns.length - (intOf i).toNat)
  case atStart => exact ⟨0, Nat.zero_le _, rfl, Ints.made _ _ _ (by simp) (Nat.le_refl _), H0.out.alloc _⟩
  case round =>
    clear H0
    obtain ⟨m, hm, rfl, hown, hh⟩ := hrel
    have HOWN := Lib.hid hown; clear hown
    have H1 := Lib.hid hh; clear hh
    obtain ⟨x0, x1, _⟩ := H1.out.1
    by_cases hlt : m < ns.length
    · have HS := Lib.hid (HST.out m)
      have hll := fltL_len p m
      have HC := Lib.hid (fun w h1 h2 => HA.out m w h1 h2)
      have H12 := Lib.hid (HB12.out m)
      have he := (HE.out m).symm
      have hz1 : (m : Int) < (ns.length : Int) := by omega
      have hz2 : (0 : Int) ≤ m := by omega
      generalize p m = d at *
      generalize dg m = x at *
      cases d
      · go_wp2_with fail
        refine (HC.out _ (HN.out.step H1.out.below) (HL.out.step H1.out.below)).mono ?_
        rintro e w1 ⟨rfl, hb1⟩
        have HO1 := Lib.hid (HOWN.out.step hb1)
        have H3 := Lib.hid (H1.out.step hb1)
        clear hb1 x0 x1
        go_wp2_with fail
        exact ⟨⟨m + 1, by omega, by go_num, by rw [HS.out, if_neg (by simp)]; exact HO1.out, H3.out⟩, by simp [intOf]; omega⟩
      · have h12 := H12.out (by trivial)
        go_wp2_with fail
        refine (HC.out _ (HN.out.step H1.out.below) (HL.out.step H1.out.below)).mono ?_
        rintro e w1 ⟨rfl, hb1⟩
        have HO1 := Lib.hid (HOWN.out.step hb1)
        have H3 := Lib.hid (H1.out.step hb1)
        clear hb1 x0 x1
        have hsz1 := H3.out.2.1.1
        obtain ⟨hi, hz0, hz1, hz2⟩ := HI.out
        go_wp2_with (at_builtin; refine wpList_append_own _ rfl _ _ 24 rfl (w.heap.size + 1) 3 i0 (.int .i64 0) 1 8 Try.underlying24 hi hz0 hz1 hz2 rfl (by decide) _ _ _ rfl (World.ownsRow.alloc HO1.out _) ⟨w1.heap.size, 0, none⟩ 1 1 [.int .i64 m] rfl rfl ?c1 ?c2 ?c3 ?c4 ?c5 ?_)
        case c1 => exact cell_one_new _ _ _
        case c2 => simp [Value.oneCell']
        case c3 => unfold maxLen; omega
        case c4 => omega
        case c5 => simp; omega
        intro v' w2 hown hgrow _
        have H4 := Lib.hid (H3.out.stepB (B := w.heap.size + 1) ⟨Nat.lt_succ_self _, Nat.lt_succ_self _, trivial⟩ (grown_below HO1.out hsz1 hgrow) (Nat.le_succ _))
        have HO2 := Lib.hid (Ints.more hown); clear hown hgrow
        go_wp2_with fail
        exact ⟨⟨m + 1, by omega, by go_num, by rw [HS.out, if_pos trivial]; exact HO2.out, H4.out⟩, by simp [intOf]; omega⟩
    · obtain rfl : m = ns.length := by omega
      go_wp2_with fail
      go_ret
      exact ⟨_, rfl, by rw [HR.out]; exact HOWN.out.mono (by omega), H1.out.below⟩

set_option maxRecDepth 100000 in
set_option maxHeartbeats 1000000 in
theorem specEndN (ns ls : List Nd) (vn vl : Value) (w : World) (hn : Prs w vn ns) (hl : Prs w vl ls) :
    Calls Try.prog 30 #[.agg #[vn, vl]] w (IntsNew (endsI ns ls) w) := by
  have hlen := hn.len
  have HN := Lib.hid hn
  have HL := Lib.hid hl
  obtain ⟨A, c, rfl⟩ := prs_form2 hn
  obtain ⟨A2, c2, rfl⟩ := prs_form2 hl
  clear hn hl
  obtain ⟨i0, hi, hz0, hz1, hz2⟩ := info_parts infoInt
  have HI := Lib.hid (And.intro hi (And.intro hz0 (And.intro hz1 hz2))); clear hi hz0 hz1 hz2
  have H0 := Lib.hid (held_pair w (.slice A ns.length c) (.slice A2 ls.length c2) 38)
  have HR := Lib.hid (show endsI ns ls = fltL (endB ns ls) ns.length from rfl)
  have HST := Lib.hid (fun n => (show fltL (endB ns ls) (n + 1) = if endB ns ls n = true then fltL (endB ns ls) n ++ [(n : Int)] else fltL (endB ns ls) n from rfl))
  have HW := Lib.hid (fun w h1 h2 => specWin ns ls (.slice A ns.length c) (.slice A2 ls.length c2) w h1 h2)
  by_cases hw : winB ns ls = true
  · have h12 := ((winB_iff ns ls).1 hw).1.1.2
    have h20 := ((winB_iff ns ls).1 hw).1.2
    have HA := Lib.hid (fun (m : Nat) w h1 h2 (hm : m < ns.length) => specAro ns ls (.slice A ns.length c) (.slice A2 ls.length c2) m w h1 h2 hw hm)
    unfold IntsNew at HA
    have HE := Lib.hid (fun (m : Nat) (hm : m < ns.length) => (show endB ns ls m = (((aroL ns ls m (2 * ls.length)).length : Int) == 1) from by rw [endB_aro hw hm, Bool.eq_iff_iff]; simp; omega))
    have HAL := Lib.hid (fun m => aroL_len ns ls m (2 * ls.length))
    rw [hw] at HW
    clear hw
    generalize endsI ns ls = r at *
    generalize endB ns ls = p at *
    go_enter Try.func30, Try.ntmps30
    go_wp2_with fail
    refine (HW.out _ (HN.out.step (H0.out.alloc _).below) (HL.out.step (H0.out.alloc _).below)).mono ?_
    rintro e w0 ⟨rfl, hb⟩
    have HMD := Lib.hid ((Ints.made (w.alloc (.cells #[.slice A ns.length c, .slice A2 ls.length c2] 38)) (w.heap.size + 1) (w.heap.size + 1) (by simp) (Nat.le_refl _)).step hb)
    have H5 := Lib.hid ((H0.out.alloc _).step hb); clear hb
    obtain ⟨x0, x1, _⟩ := H5.out.1
    go_wp2_with fail
    go_loopw [3, 4] (fun v i wr => ∃ m : Nat, m ≤ ns.length ∧ i = .int .i64 m ∧ Ints wr (w.heap.size + 1) v (fltL p m) ∧ Held w wr [(w.heap.size, 0, .slice A ns.length c), (w.heap.size, 1, .slice A2 ls.length c2)]) (fun _ i _ => ns.length - (intOf i).toNat)
    case atStart => exact ⟨0, Nat.zero_le _, rfl, HMD.out, H5.out⟩
    case round =>
      clear H0 H5 HMD x0 x1
      obtain ⟨m, hm, rfl, hown, hh⟩ := hrel
      have HOWN := Lib.hid hown; clear hown
      have H1 := Lib.hid hh; clear hh
      obtain ⟨x0, x1, _⟩ := H1.out.1
      by_cases hlt : m < ns.length
      · have HS := Lib.hid (HST.out m)
        have hll := fltL_len p m
        have HC := Lib.hid (fun w h1 h2 => HA.out m w h1 h2 hlt)
        have he := (HE.out m hlt).symm
        have hal := HAL.out m
        have hz1 : (m : Int) < (ns.length : Int) := by omega
        have hz2 : (0 : Int) ≤ m := by omega
        generalize p m = d at *
        generalize aroL ns ls m (2 * ls.length) = q at *
        go_wp2_with fail
        refine (HC.out _ (HN.out.step H1.out.below) (HL.out.step H1.out.below)).mono ?_
        rintro e w1 ⟨vq, rfl, hi, hb1⟩
        obtain ⟨aq, cq, rfl, -, -⟩ := hi.form
        clear hi
        have HO1 := Lib.hid (HOWN.out.step hb1)
        have H3 := Lib.hid (H1.out.step hb1)
        clear hb1 x0 x1
        cases d
        · go_wp2_with fail
          exact ⟨⟨m + 1, by omega, by go_num, by rw [HS.out, if_neg (by simp)]; exact HO1.out, H3.out⟩, by simp [intOf]; omega⟩
        · have hsz1 := H3.out.2.1.1
          obtain ⟨hi, hz0, hz1, hz2⟩ := HI.out
          go_wp2_with (at_builtin; refine wpList_append_own _ rfl _ _ 24 rfl (w.heap.size + 1) 3 i0 (.int .i64 0) 1 8 Try.underlying24 hi hz0 hz1 hz2 rfl (by decide) _ _ _ rfl (World.ownsRow.alloc HO1.out _) ⟨w1.heap.size, 0, none⟩ 1 1 [.int .i64 m] rfl rfl ?c1 ?c2 ?c3 ?c4 ?c5 ?_)
          case c1 => exact cell_one_new _ _ _
          case c2 => simp [Value.oneCell']
          case c3 => unfold maxLen; omega
          case c4 => omega
          case c5 => simp; omega
          intro v' w2 hown hgrow _
          have H4 := Lib.hid (H3.out.stepB (B := w.heap.size + 1) ⟨Nat.lt_succ_self _, Nat.lt_succ_self _, trivial⟩ (grown_below HO1.out hsz1 hgrow) (Nat.le_succ _))
          have HO2 := Lib.hid (Ints.more hown); clear hown hgrow
          go_wp2_with fail
          exact ⟨⟨m + 1, by omega, by go_num, by rw [HS.out, if_pos trivial]; exact HO2.out, H4.out⟩, by simp [intOf]; omega⟩
      · obtain rfl : m = ns.length := by omega
        go_wp2_with fail
        go_ret
        exact ⟨_, rfl, by rw [HR.out]; exact HOWN.out.mono (by omega), H1.out.below⟩
  · have HZ := Lib.hid (endsI_none hw)
    rw [show winB ns ls = false by simpa using hw] at HW
    clear hw HR
    generalize endsI ns ls = r at *
    go_enter Try.func30, Try.ntmps30
    go_wp2_with fail
    refine (HW.out _ (HN.out.step (H0.out.alloc _).below) (HL.out.step (H0.out.alloc _).below)).mono ?_
    rintro e w0 ⟨rfl, hb⟩
    have HMD := Lib.hid ((Ints.made (w.alloc (.cells #[.slice A ns.length c, .slice A2 ls.length c2] 38)) (w.heap.size + 1) w.heap.size (by simp) (by omega)).step hb)
    have H5 := Lib.hid ((H0.out.alloc _).step hb); clear hb
    go_wp2_with fail
    go_ret
    exact ⟨_, rfl, by rw [HZ.out]; exact HMD.out, H5.out.below⟩
end Go.Proofs.Ytkkjcdilpbofmaa
