/-
  The year, of the program: clear minutes, the whole year, the best month, the months above.
-/
import Derived.Test.YtkkpmpicaiflgaaDoorYearS
import Derived.Test.YtkkpmpicaiflgaaDoorLaidY
namespace Go.Proofs.YtkkpmpicaiflgaaDoor
open Go.RowKit
set_option linter.unusedVariables false
set_option linter.unusedSimpArgs false

set_option maxRecDepth 100000 in
theorem implDay (m : Int) (w : World) (ht : Tab w) :
    Calls Tryd.prog 8 #[.int .i64 m] w (IntIs (dayI m) w) := by
  have HA := Lib.hid (implMonth m)
  by_cases h : inB m 0 11 = true
  · obtain ⟨h1, h2⟩ := (inB_iff _ _ _).1 h
    have hr : dayI m = days.getD m.toNat 0 := by unfold dayI; rw [if_pos h]
    rw [h] at HA
    obtain ⟨k, rfl⟩ : ∃ k : Nat, m = k := ⟨m.toNat, by omega⟩
    have hk : k < days.length := by have : days.length = 12 := rfl; omega
    have hcc := Lib.TabIs.cell ht gDay k hk
    have hlt := tab_lt ht
    have hv : days.getD k 0 = dayI (k : Int) := by rw [hr]; rfl
    rw [hv] at hcc
    have HC := Lib.hid hcc
    generalize dayI (k : Int) = r at *
    clear hr h hv hk hcc ht
    go_enter Tryd.func8, Tryd.ntmps8
    go_wp2_with fail
    refine (HA.out _).mono ?_
    rintro e w' ⟨rfl, hb⟩
    have hc := ((bcell hb).1 _ k hlt).trans HC.out
    have HB := Lib.hid hb; clear hb
    go_wp2_with fail
    go_ret
    exact ⟨rfl, HB.out⟩
  · have hr : dayI m = -1 := by unfold dayI; rw [if_neg h]
    rw [Bool.not_eq_true] at h
    rw [h] at HA
    clear ht
    generalize dayI m = r at *
    have HR := Lib.hid hr; clear hr h
    go_enter Tryd.func8, Tryd.ntmps8
    go_wp2_with fail
    refine (HA.out _).mono ?_
    rintro e w' ⟨rfl, hb⟩
    have HB := Lib.hid hb; clear hb
    go_wp2_with fail
    go_ret
    exact ⟨ret_int (by rw [HR.out]), HB.out⟩

set_option maxRecDepth 100000 in
theorem implClear (m t : Int) (w : World) (ht : Tab w) :
    Calls Tryd.prog 6 #[.int .i64 m, .int .i64 t] w (IntIs (clearI m t) w) := by
  have HTB := Lib.hid ht; clear ht
  have HA := Lib.hid (implCloud m t)
  have HB := Lib.hid (implDay m)
  have hbd := fun h1 h2 => And.intro (dayI_bd (m := m) h1) (And.intro (cloudI_bd (m := m) (t := t) h1 h2) (clear_bd (m := m) (t := t) h1 h2))
  have hno := cloudI_no (m := m) (t := t)
  have HR0 := Lib.hid (show clearI m t = if inB m 0 11 && inB t 0 60 then dayI m * (100 - cloudI m t) / 100 else -1 from rfl)
  have H0 := Lib.hid (Held.none_ w)
  generalize clearI m t = r at *
  generalize dayI m = d at *
  generalize cloudI m t = c at *
  generalize inB m 0 11 = b1 at *
  generalize inB t 0 60 = b2 at *
  by_cases hb : (b1 && b2) = true
  · obtain ⟨rfl, rfl⟩ : b1 = true ∧ b2 = true := by simpa using hb
    obtain ⟨⟨d1, d2⟩, ⟨c1, c2⟩, r1, r2⟩ := hbd rfl rfl
    clear hb hno hbd
    have HR := Lib.hid (show r = d * (100 - c) / 100 from by rw [HR0.out]; rfl)
    clear HR0
    have e1 : IntKind.i64.wrap (100 - c) = 100 - c := IntWalk.i64_in _ (by omega)
    obtain ⟨p1, p2⟩ := prod_bd (p := d) (q := 100 - c) 1000 (by omega) (by omega) (by omega) (by omega)
    have p3 : 0 ≤ d * (100 - c) := Int.mul_nonneg (by omega) (by omega)
    have e2 : IntKind.i64.wrap (d * (100 - c)) = d * (100 - c) := IntWalk.i64_in _ (by omega)
    have u1 : 0 ≤ d * (100 - c) / 100 := by omega
    have u2 : d * (100 - c) / 100 ≤ 1000000 := by omega
    have hc0 : ¬ c < 0 := by omega
    go_enter Tryd.func6, Tryd.ntmps6
    go_wp2_with fail
    refine (HA.out _).mono ?_
    rintro e wH1 ⟨rfl, hb⟩
    have H1 := Lib.hid ((H0.out).step hb); clear hb
    go_wp2_with fail
    refine (HB.out _ (tab_below HTB.out H1.out.below (tab_lt HTB.out))).mono ?_
    rintro e wH2 ⟨rfl, hb⟩
    have H2 := Lib.hid ((H1.out).step hb); clear hb
    go_wp2_with fail
    go_ret
    exact ⟨ret_int (by rw [HR.out]), H2.out.below⟩
  · have hb : (b1 && b2) = false := by simpa using hb
    obtain rfl := hno hb
    obtain rfl : r = -1 := by rw [HR0.out, hb]; rfl
    clear hb hbd hno HR0
    go_enter Tryd.func6, Tryd.ntmps6
    go_wp2_with fail
    refine (HA.out _).mono ?_
    rintro e wH1 ⟨rfl, hb⟩
    have H1 := Lib.hid ((H0.out).step hb); clear hb
    go_wp2_with fail
    go_ret
    exact ⟨rfl, H1.out.below⟩

/-- The clear minutes of the first n months. -/
def mnL (t : Int) : Nat → List Int
  | 0 => []
  | n + 1 => mnL t n ++ [clearI n t]
theorem mnL_len (t : Int) : ∀ n, (mnL t n).length = n
  | 0 => rfl
  | n + 1 => by have := mnL_len t n; simp [mnL, this]
theorem mnL_at (t : Int) : ∀ n k, k < n → atZ (mnL t n) k = clearI k t
  | n + 1, k, h => by
    have hl := mnL_len t n
    unfold mnL atZ
    by_cases hk : k < n
    · rw [List.getD_eq_getElem?_getD, List.getElem?_append_left (by omega), ← List.getD_eq_getElem?_getD]; exact mnL_at t n k hk
    · obtain rfl : k = n := by omega
      rw [List.getD_eq_getElem?_getD, List.getElem?_append_right (by omega), hl]; simp
def mnI (t : Int) : List Int := if inB t 0 60 then mnL t 12 else []

set_option maxRecDepth 100000 in
theorem implMn (t : Int) (w : World) (ht : Tab w) :
    Calls Tryd.prog 13 #[.int .i64 t] w (IntsNew (mnI t) w) := by
  have HTB := Lib.hid ht
  have HTL := Lib.hid (tab_lt ht); clear ht
  have HA := Lib.hid (implWet t)
  have HC := Lib.hid (fun (m : Nat) w h => implClear m t w h)
  have HR := Lib.hid (show mnI t = if inB t 0 60 then mnL t 12 else [] from rfl)
  have HST := Lib.hid (fun n => (show mnL t (n + 1) = mnL t n ++ [clearI n t] from rfl))
  have HZ := Lib.hid (show mnL t 0 = [] from rfl)
  have HLN := Lib.hid (mnL_len t)
  obtain ⟨i0, hi, hz0, hz1, hz2⟩ := info_parts infoInt
  have HI := Lib.hid (And.intro hi (And.intro hz0 (And.intro hz1 hz2))); clear hi hz0 hz1 hz2
  generalize mnI t = r at *
  generalize inB t 0 60 = b at *
  generalize mnL t = S at *
  have H0 := Lib.hid (Held.none_ w)
  cases b
  · have HR2 := Lib.hid (show r = [] from HR.out); clear HR
    go_enter Tryd.func13, Tryd.ntmps13
    go_wp2_with fail
    refine (HA.out _).mono ?_
    rintro e wH1 ⟨rfl, hb⟩
    have H1 := Lib.hid ((H0.out).step hb); clear hb
    go_wp2_with fail
    go_ret
    exact ⟨_, rfl, by rw [HR2.out]; exact Ints.nil _ _, H1.out.below⟩
  · have HR2 := Lib.hid (show S 12 = r from HR.out.symm); clear HR
    go_enter Tryd.func13, Tryd.ntmps13
    go_wp2_with fail
    refine (HA.out _).mono ?_
    rintro e wH1 ⟨rfl, hb⟩
    have H1 := Lib.hid ((H0.out).step hb); clear hb
    go_wp2_with fail
    have HB1 := Lib.hid H1.out.below
    go_loopw [3, 9] (fun v i wr => ∃ m : Nat, m ≤ 12 ∧ i = .int .i64 m ∧ Ints wr w.heap.size v (S m) ∧ Below w.heap.size w wr) (fun _ i _ => 12 - (intOf i).toNat)
    case atStart => exact ⟨0, Nat.zero_le _, rfl, by rw [HZ.out]; exact World.ownsRow_made _ _ _ HB1.out.size (by unfold maxLen; omega) rfl, HB1.out.alloc HB1.out.size _⟩
    case round =>
      clear H0 H1 HB1
      obtain ⟨m, hm, rfl, hown, hb⟩ := hrel
      have HOWN := Lib.hid hown; clear hown
      have HB := Lib.hid hb; clear hb
      by_cases hlt : m < 12
      · have HS := Lib.hid (HST.out m)
        have hll := Nat.le_of_eq (HLN.out m)
        have HCm := Lib.hid (HC.out m)
        have hz1 : (m : Int) < 12 := by omega
        have hz2 : (0 : Int) ≤ m := by omega
        generalize clearI m t = c at *
        have hsz0 := HB.out.size
        go_wp2_with fail
        refine (HCm.out _ (tab_below HTB.out HB.out HTL.out)).mono ?_
        rintro e w1 ⟨rfl, hb⟩
        have HOWN := Lib.hid (HOWN.out.step hb)
        have HB := Lib.hid (HB.out.trans (hb.mono hsz0)); clear hb
        have hsz := HB.out.size
        obtain ⟨hi, hz0, hzz1, hzz2⟩ := HI.out
        go_wp2_with (at_builtin; refine wpList_append_own _ rfl _ _ 27 rfl w.heap.size 3 i0 (.int .i64 0) 1 8 Tryd.underlying27 hi hz0 hzz1 hzz2 rfl (by decide) _ _ _ rfl (World.ownsRow.alloc HOWN.out _) ⟨_, 0, none⟩ 1 1 [.int .i64 c] rfl rfl ?c1 ?c2 ?c3 ?c4 ?c5 ?_)
        case c1 => exact cell_one_new _ _ _
        case c2 => simp [Value.oneCell']
        case c3 => unfold maxLen; omega
        case c4 => omega
        case c5 => simp; omega
        intro v' w2 hown hgrow _
        have HB2 := Lib.hid (HB.out.trans (grown_below HOWN.out hsz hgrow))
        have HO2 := Lib.hid (Ints.more hown); clear hown hgrow
        go_wp2_with fail
        exact ⟨⟨m + 1, by omega, by go_num, by rw [HS.out]; exact HO2.out, HB2.out⟩, by simp [intOf]; omega⟩
      · obtain rfl : m = 12 := by omega
        go_wp2_with fail
        go_ret
        exact ⟨_, rfl, by rw [← HR2.out]; exact HOWN.out, HB.out⟩

set_option maxRecDepth 100000 in
theorem implYear (t : Int) (w : World) (ht : Tab w) :
    Calls Tryd.prog 11 #[.int .i64 t] w (IntIs (yearI t) w) := by
  have HA := Lib.hid (implMn t w ht)
  unfold IntsNew at HA
  have HR := Lib.hid (show yearI t = if inB t 0 60 then ysum t 12 else -1 from rfl)
  have HM := Lib.hid (show mnI t = if inB t 0 60 then mnL t 12 else [] from rfl)
  have HAT := Lib.hid (mnL_at t 12)
  have HLN := Lib.hid (mnL_len t 12)
  have HZ := Lib.hid (show ysum t 0 = 0 from rfl)
  have HST := Lib.hid (fun n => (show ysum t (n + 1) = ysum t n + 30 * clearI n t from rfl))
  have HBD := Lib.hid (fun h : inB t 0 60 = true => And.intro (ysum_bd h) (fun m h2 => clear_nat (m := m) h2 h))
  have H0 := Lib.hid (Held.none_ w)
  clear ht
  generalize yearI t = r at *
  generalize mnI t = L at *
  generalize mnL t 12 = M at *
  generalize inB t 0 60 = b at *
  generalize ysum t = S at *
  cases b
  · obtain rfl : L = [] := by rw [HM.out]; rfl
    go_enter Tryd.func11, Tryd.ntmps11
    go_wp2_with fail
    refine HA.out.mono ?_
    rintro e w1 ⟨v, rfl, hm, hb⟩
    have HB1 := Lib.hid hb; clear hb
    obtain ⟨A, c, rfl, _, _, _⟩ := hm.seq.form
    clear hm
    go_wp2_with fail
    go_ret
    exact ⟨ret_int (by rw [HR.out]; rfl), HB1.out⟩
  · obtain rfl : L = M := by rw [HM.out]; rfl
    have HB2 := Lib.hid (HBD.out rfl); clear HBD
    have HR2 := Lib.hid (show r = S 12 from HR.out); clear HR HM
    go_enter Tryd.func11, Tryd.ntmps11
    go_wp2_with fail
    refine HA.out.mono ?_
    rintro e w1 ⟨v, rfl, hm, hb⟩
    have HB1 := Lib.hid hb; clear hb
    obtain ⟨A, c, rfl, _, _, hcs⟩ := hm.seq.form
    have HCS := Lib.hid hcs; clear hcs hm
    have hl := HLN.out
    rw [hl] at HCS ⊢
    go_wp2_with fail
    go_loopw [4, 14] (fun s i wr => ∃ m : Nat, m ≤ 12 ∧ i = .int .i64 m ∧ s = .int .i64 (S m) ∧ wr = w1) (fun _ i _ => 12 - (intOf i).toNat)
    case atStart => exact ⟨0, by omega, rfl, by rw [HZ.out], rfl⟩
    case round =>
      clear H0
      obtain ⟨m, hm, hi, hs, rfl⟩ := hrel
      obtain rfl := hi
      by_cases hlt : m < 12
      · have hs1 := HB2.out.1 m hm
        have hc1 := HB2.out.2 m hlt
        have HN := Lib.hid (HST.out m)
        obtain ⟨bb, o, rfl, hbl, hc⟩ := HCS.out m hlt
        rw [HAT.out m hlt] at hc
        have hz1 : (m : Int) < 12 := by omega
        have hz2 : (0 : Int) ≤ m := by omega
        generalize clearI m t = c at *
        generalize S m = sv at *
        subst hs
        have e1 : IntKind.i64.wrap (c * 30) = c * 30 := IntWalk.i64_in _ (by omega)
        have e2 : IntKind.i64.wrap (sv + c * 30) = sv + c * 30 := IntWalk.i64_in _ (by omega)
        go_wp2_with fail
        exact ⟨⟨m + 1, by omega, by go_num, by rw [HN.out]; exact congrArg (Value.int .i64) (by omega), trivial⟩, by simp [intOf]; omega⟩
      · obtain rfl : m = 12 := by omega
        generalize S 12 = sv at *
        subst hs
        go_wp2_with fail
        go_ret
        exact ⟨ret_int (by rw [HR2.out]), HB1.out⟩


end Go.Proofs.YtkkpmpicaiflgaaDoor
