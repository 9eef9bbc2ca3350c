/-
  The year, of the model: clear minutes, the whole year, the best month, the months above.
-/
import Derived.Test.YtghpbdgghliieaaDoorYear
import Derived.Test.YtghpbdgghliieaaDoorMarkB
namespace Go.Proofs.YtghpbdgghliieaaDoor
open Go.RowKit
set_option linter.unusedVariables false
set_option linter.unusedSimpArgs false

theorem clear_bd {m t : Int} (h : inB m 0 11 = true) (h2 : inB t 0 60 = true) : 0 ≤ clearI m t ∧ clearI m t ≤ 990 := by
  obtain ⟨a, b⟩ := dayI_bd h
  obtain ⟨c, d⟩ := cloudI_bd h h2
  unfold clearI
  rw [h, h2, Bool.and_self, if_pos rfl]
  generalize dayI m = x at *
  generalize cloudI m t = y at *
  have p1 : 0 ≤ x * (100 - y) := Int.mul_nonneg (by omega) (by omega)
  have p2 : x * (100 - y) ≤ 990 * (100 - y) := Int.mul_le_mul_of_nonneg_right b (by omega)
  omega
theorem clear_nat {m : Nat} {t : Int} (h : m < 12) (h2 : inB t 0 60 = true) : 0 ≤ clearI m t ∧ clearI m t ≤ 990 := clear_bd (by rw [inB_iff]; omega) h2
def ysum (t : Int) : Nat → Int
  | 0 => 0
  | n + 1 => ysum t n + 30 * clearI n t
theorem ysum_bd {t : Int} (h : inB t 0 60 = true) : ∀ n, n ≤ 12 → 0 ≤ ysum t n ∧ ysum t n ≤ 29700 * n
  | 0, _ => by simp [ysum]
  | n + 1, hn => by
    have h1 := ysum_bd h n (by omega)
    have h2 := clear_nat (m := n) (by omega) h
    unfold ysum
    omega
def yearI (t : Int) : Int := if inB t 0 60 then ysum t 12 else -1
/-- The first one of the best months up to n. -/
def bst (t : Int) : Nat → Nat
  | 0 => 0
  | n + 1 => if clearI (bst t n : Nat) t < clearI ((n + 1 : Nat) : Int) t then n + 1 else bst t n
theorem bst_le (t : Int) : ∀ n, bst t n ≤ n
  | 0 => Nat.le_refl _
  | n + 1 => by have := bst_le t n; unfold bst; split <;> omega
def bestI (t : Int) : Int := if inB t 0 60 then ((bst t 11 : Nat) : Int) else -1
def aboveL (t y : Int) : Nat → List Int
  | 0 => []
  | n + 1 => if y ≤ clearI n t then aboveL t y n ++ [(n : Int)] else aboveL t y n
theorem aboveL_len (t y : Int) : ∀ n, (aboveL t y n).length ≤ n
  | 0 => Nat.le_refl _
  | n + 1 => by
    have := aboveL_len t y n
    unfold aboveL
    split
    · simp; omega
    · omega
def aboveI (t y : Int) : List Int := if inB t 0 60 then aboveL t y 12 else []
theorem aboveI_len (t y : Int) : (aboveI t y).length ≤ 1048576 := by
  unfold aboveI
  split
  · have := aboveL_len t y 12; omega
  · simp

set_option maxRecDepth 100000 in
theorem specClear (m t : Int) (w : World) :
    Calls Tryd.prog 10 #[.int .i64 m, .int .i64 t] w (IntIs (clearI m t) w) := by
  have HA := Lib.hid (specCloud m t)
  have HB := Lib.hid (specDay m)
  have hbd := fun h1 h2 => And.intro (dayI_bd (m := m) h1) (And.intro (cloudI_bd (m := m) (t := t) h1 h2) (clear_bd (m := m) (t := t) h1 h2))
  have hno := cloudI_no (m := m) (t := t)
  have HR0 := Lib.hid (show clearI m t = if inB m 0 11 && inB t 0 60 then dayI m * (100 - cloudI m t) / 100 else -1 from rfl)
  have H0 := Lib.hid (Held.none_ w)
  generalize clearI m t = r at *
  generalize dayI m = d at *
  generalize cloudI m t = c at *
  generalize inB m 0 11 = b1 at *
  generalize inB t 0 60 = b2 at *
  by_cases hb : (b1 && b2) = true
  · obtain ⟨rfl, rfl⟩ : b1 = true ∧ b2 = true := by simpa using hb
    obtain ⟨⟨d1, d2⟩, ⟨c1, c2⟩, r1, r2⟩ := hbd rfl rfl
    clear hb hno hbd
    have HR := Lib.hid (show r = d * (100 - c) / 100 from by rw [HR0.out]; rfl)
    clear HR0
    have e1 : IntKind.i64.wrap (100 - c) = 100 - c := IntWalk.i64_in _ (by omega)
    obtain ⟨p1, p2⟩ := prod_bd (p := d) (q := 100 - c) 1000 (by omega) (by omega) (by omega) (by omega)
    have p3 : 0 ≤ d * (100 - c) := Int.mul_nonneg (by omega) (by omega)
    have e2 : IntKind.i64.wrap (d * (100 - c)) = d * (100 - c) := IntWalk.i64_in _ (by omega)
    have u1 : 0 ≤ d * (100 - c) / 100 := by omega
    have u2 : d * (100 - c) / 100 ≤ 1000000 := by omega
    have hc0 : ¬ c < 0 := by omega
    go_enter Tryd.func10, Tryd.ntmps10
    go_wp2_with fail
    refine (HA.out _).mono ?_
    rintro e wH1 ⟨rfl, hb⟩
    have H1 := Lib.hid ((H0.out).step hb); clear hb
    go_wp2_with fail
    refine (HB.out _).mono ?_
    rintro e wH2 ⟨rfl, hb⟩
    have H2 := Lib.hid ((H1.out).step hb); clear hb
    go_wp2_with fail
    go_ret
    exact ⟨ret_int (by rw [HR.out]), H2.out.below⟩
  · have hb : (b1 && b2) = false := by simpa using hb
    obtain rfl := hno hb
    obtain rfl : r = -1 := by rw [HR0.out, hb]; rfl
    clear hb hbd hno HR0
    go_enter Tryd.func10, Tryd.ntmps10
    go_wp2_with fail
    refine (HA.out _).mono ?_
    rintro e wH1 ⟨rfl, hb⟩
    have H1 := Lib.hid ((H0.out).step hb); clear hb
    go_wp2_with fail
    go_ret
    exact ⟨rfl, H1.out.below⟩

set_option maxRecDepth 100000 in
theorem specYear (t : Int) (w : World) :
    Calls Tryd.prog 12 #[.int .i64 t] w (IntIs (yearI t) w) := by
  have HA := Lib.hid (specInB t 0 60)
  have HC := Lib.hid (fun (m : Nat) w => specClear m t w)
  have HR := Lib.hid (show yearI t = if inB t 0 60 then ysum t 12 else -1 from rfl)
  have HZ := Lib.hid (show ysum t 0 = 0 from rfl)
  have HST := Lib.hid (fun n => (show ysum t (n + 1) = ysum t n + 30 * clearI n t from rfl))
  have HBD := Lib.hid (fun h : inB t 0 60 = true => And.intro (ysum_bd h) (fun m h2 => clear_nat (m := m) h2 h))
  have H0 := Lib.hid (Held.none_ w)
  generalize yearI t = r at *
  generalize inB t 0 60 = b at *
  generalize ysum t = S at *
  cases b
  · go_enter Tryd.func12, Tryd.ntmps12
    go_wp2_with fail
    refine (HA.out _).mono ?_
    rintro e wH1 ⟨rfl, hb⟩
    have H1 := Lib.hid ((H0.out).step hb); clear hb
    go_wp2_with fail
    go_ret
    exact ⟨ret_int (by rw [HR.out]; rfl), H1.out.below⟩
  · have HB2 := Lib.hid (HBD.out rfl); clear HBD
    have HR2 := Lib.hid (show r = S 12 from HR.out); clear HR
    go_enter Tryd.func12, Tryd.ntmps12
    go_wp2_with fail
    refine (HA.out _).mono ?_
    rintro e wH1 ⟨rfl, hb⟩
    have H1 := Lib.hid ((H0.out).step hb); clear hb
    go_wp2_with fail
    go_loopw [3, 4] (fun s i wr => ∃ m : Nat, m ≤ 12 ∧ i = .int .i64 m ∧ s = .int .i64 (S m) ∧ Held w wr []) (fun _ i _ => 12 - (intOf i).toNat)
    case atStart => exact ⟨0, by omega, rfl, by rw [HZ.out], H1.out⟩
    case round =>
      clear H0 H1
      obtain ⟨m, hm, hi, hs, hh⟩ := hrel
      obtain rfl := hi
      have H0 := Lib.hid hh; clear hh
      by_cases hlt : m < 12
      · have hs1 := HB2.out.1 m hm
        have hc1 := HB2.out.2 m hlt
        have HN := Lib.hid (HST.out m)
        have HCm := Lib.hid (HC.out m)
        have hz1 : (m : Int) < 12 := by omega
        have hz2 : (0 : Int) ≤ m := by omega
        generalize clearI m t = c at *
        generalize S m = sv at *
        subst hs
        have e1 : IntKind.i64.wrap (30 * c) = 30 * c := IntWalk.i64_in _ (by omega)
        have e2 : IntKind.i64.wrap (sv + 30 * c) = sv + 30 * c := IntWalk.i64_in _ (by omega)
        go_wp2_with fail
        refine (HCm.out _).mono ?_
        rintro e wH1 ⟨rfl, hb⟩
        have H1 := Lib.hid ((H0.out).step hb); clear hb
        go_wp2_with fail
        exact ⟨⟨m + 1, by omega, by go_num, by rw [HN.out], H1.out⟩, by simp [intOf]; omega⟩
      · obtain rfl : m = 12 := by omega
        generalize S 12 = sv at *
        subst hs
        go_wp2_with fail
        go_ret
        exact ⟨ret_int (by rw [HR2.out]), H0.out.below⟩

set_option maxRecDepth 100000 in
theorem specBest (t : Int) (w : World) :
    Calls Tryd.prog 14 #[.int .i64 t] w (IntIs (bestI t) w) := by
  have HA := Lib.hid (specInB t 0 60)
  have HC := Lib.hid (fun (m : Nat) w => specClear m t w)
  have HR := Lib.hid (show bestI t = if inB t 0 60 then ((bst t 11 : Nat) : Int) else -1 from rfl)
  have HST := Lib.hid (fun n => (show bst t (n + 1) = if clearI (bst t n : Nat) t < clearI ((n + 1 : Nat) : Int) t then n + 1 else bst t n from rfl))
  have HZ := Lib.hid (show bst t 0 = 0 from rfl)
  have H0 := Lib.hid (Held.none_ w)
  generalize bestI t = r at *
  generalize inB t 0 60 = b at *
  generalize bst t = S at *
  cases b
  · go_enter Tryd.func14, Tryd.ntmps14
    go_wp2_with fail
    refine (HA.out _).mono ?_
    rintro e wH1 ⟨rfl, hb⟩
    have H1 := Lib.hid ((H0.out).step hb); clear hb
    go_wp2_with fail
    go_ret
    exact ⟨ret_int (by rw [HR.out]; rfl), H1.out.below⟩
  · have HR2 := Lib.hid (show r = ((S 11 : Nat) : Int) from HR.out); clear HR
    go_enter Tryd.func14, Tryd.ntmps14
    go_wp2_with fail
    refine (HA.out _).mono ?_
    rintro e wH1 ⟨rfl, hb⟩
    have H1 := Lib.hid ((H0.out).step hb); clear hb
    go_wp2_with fail
    go_loopw [3, 4] (fun s i wr => ∃ m : Nat, m ≤ 11 ∧ i = .int .i64 ((m + 1 : Nat) : Int) ∧ s = .int .i64 (S m : Nat) ∧ Held w wr []) (fun _ i _ => 12 - (intOf i).toNat)
    case atStart => exact ⟨0, by omega, rfl, by rw [HZ.out]; rfl, H1.out⟩
    case round =>
      clear H0 H1
      obtain ⟨m, hm, hi, hs, hh⟩ := hrel
      obtain rfl := hi
      have H0 := Lib.hid hh; clear hh
      by_cases hlt : m < 11
      · have HN := Lib.hid (HST.out m)
        have HCm := Lib.hid (HC.out (m + 1))
        have HCs := Lib.hid (HC.out (S m))
        have hz1 : ((m + 1 : Nat) : Int) < 12 := by omega
        have hz2 : (0 : Int) ≤ ((m + 1 : Nat) : Int) := by omega
        have hz3 : IntKind.i64.wrap (((m + 1 : Nat) : Int) + 1) = ((m + 1 + 1 : Nat) : Int) := by rw [IntWalk.i64_in _ (by omega)]; omega
        generalize clearI ((m + 1 : Nat) : Int) t = c at *
        generalize clearI (S m : Nat) t = c2 at *
        generalize hsv : S m = sv at *
        subst hs
        have HM := Lib.hid hm; have HLT := Lib.hid hlt
        generalize hmi : ((m + 1 : Nat) : Int) = mi at *
        have HMI := Lib.hid hmi; clear hmi
        by_cases hcc : c2 < c
        · have HN2 := Lib.hid (show S (m + 1) = m + 1 from by rw [HN.out, if_pos hcc])
          clear HN
          go_wp2_with fail
          refine (HCm.out _).mono ?_
          rintro e wH1 ⟨rfl, hb⟩
          have H1 := Lib.hid ((H0.out).step hb); clear hb
          go_wp2_with fail
          refine (HCs.out _).mono ?_
          rintro e wH2 ⟨rfl, hb⟩
          have H2 := Lib.hid ((H1.out).step hb); clear hb
          go_wp2_with fail
          exact ⟨⟨m + 1, by have := HLT.out; omega, congrArg (Value.int .i64) (by omega), by rw [HN2.out]; exact congrArg (Value.int .i64) HMI.out.symm, H2.out⟩, by simp [intOf]; have := HMI.out; have := HLT.out; omega⟩
        · have HN2 := Lib.hid (show S (m + 1) = sv from by rw [HN.out, if_neg hcc])
          clear HN
          go_wp2_with fail
          refine (HCm.out _).mono ?_
          rintro e wH1 ⟨rfl, hb⟩
          have H1 := Lib.hid ((H0.out).step hb); clear hb
          go_wp2_with fail
          refine (HCs.out _).mono ?_
          rintro e wH2 ⟨rfl, hb⟩
          have H2 := Lib.hid ((H1.out).step hb); clear hb
          go_wp2_with fail
          exact ⟨⟨m + 1, by have := HLT.out; omega, congrArg (Value.int .i64) (by omega), by rw [HN2.out], H2.out⟩, by simp [intOf]; have := HMI.out; have := HLT.out; omega⟩
      · obtain rfl : m = 11 := by omega
        generalize S 11 = sv at *
        subst hs
        go_wp2_with fail
        go_ret
        exact ⟨ret_int (by rw [HR2.out]), H0.out.below⟩

set_option maxRecDepth 100000 in
theorem specAbove (t y : Int) (w : World) :
    Calls Tryd.prog 16 #[.int .i64 t, .int .i64 y] w (IntsNew (aboveI t y) w) := by
  have HA := Lib.hid (specInB t 0 60)
  have HC := Lib.hid (fun (m : Nat) w => specClear m t w)
  have HR := Lib.hid (show aboveI t y = if inB t 0 60 then aboveL t y 12 else [] from rfl)
  have HST := Lib.hid (fun n => (show aboveL t y (n + 1) = if y ≤ clearI n t then aboveL t y n ++ [(n : Int)] else aboveL t y n from rfl))
  have HZ := Lib.hid (show aboveL t y 0 = [] from rfl)
  have HLN := Lib.hid (aboveL_len t y)
  obtain ⟨i0, hi, hz0, hz1, hz2⟩ := info_parts infoInt
  have HI := Lib.hid (And.intro hi (And.intro hz0 (And.intro hz1 hz2))); clear hi hz0 hz1 hz2
  generalize aboveI t y = r at *
  generalize inB t 0 60 = b at *
  generalize aboveL t y = S at *
  have HB0 := Lib.hid ((Below.refl w.heap.size w).alloc (Nat.le_refl _) (.cells #[] 3))
  have HO0 := Lib.hid (show Ints (w.alloc (.cells #[] 3)) w.heap.size (.slice (some ⟨w.heap.size, 0, none⟩) 0 0) [] from World.ownsRow_made _ _ _ (Nat.le_refl _) (by unfold maxLen; omega) rfl)
  cases b
  · have HR2 := Lib.hid (show r = [] from HR.out); clear HR
    go_enter Tryd.func16, Tryd.ntmps16
    go_wp2_with fail
    refine wp_loop_rounds 1 ?_
    rw [rounds_succ]
    go_wp2_with fail
    refine (HA.out _).mono ?_
    rintro e w1 ⟨rfl, hb⟩
    have HO1 := Lib.hid (HO0.out.step hb)
    have HB1 := Lib.hid (HB0.out.trans (hb.mono (by simp))); clear hb
    go_wp2_with fail
    go_ret
    exact ⟨_, rfl, by rw [HR2.out]; exact HO1.out, HB1.out⟩
  · have HR2 := Lib.hid (show S 12 = r from HR.out.symm); clear HR
    go_enter Tryd.func16, Tryd.ntmps16
    go_wp2_with fail
    go_loopw [5, 6] (fun v i wr => ∃ m : Nat, m ≤ 12 ∧ i = .int .i64 m ∧ Ints wr w.heap.size v (S m) ∧ Below w.heap.size w wr) (fun _ i _ => 12 - (intOf i).toNat)
    case atStart => exact ⟨0, Nat.zero_le _, rfl, by rw [HZ.out]; exact HO0.out, HB0.out⟩
    case round =>
      clear HO0 HB0
      obtain ⟨m, hm, rfl, hown, hb⟩ := hrel
      have HOWN := Lib.hid hown; clear hown
      have HB := Lib.hid hb; clear hb
      by_cases hlt : m < 12
      · have HS := Lib.hid (HST.out m)
        have hll := HLN.out m
        have HCm := Lib.hid (HC.out m)
        have hz1 : (m : Int) < 12 := by omega
        have hz2 : (0 : Int) ≤ m := by omega
        generalize clearI m t = c at *
        have hsz0 := HB.out.size
        go_wp2_with fail
        refine (HA.out _).mono ?_
        rintro e w1 ⟨rfl, hb⟩
        have HO1 := Lib.hid (HOWN.out.step hb)
        have HB1 := Lib.hid (HB.out.trans (hb.mono hsz0)); clear hb
        have hsz1 := HB1.out.size
        go_wp2_with fail
        refine (HCm.out _).mono ?_
        rintro e w3 ⟨rfl, hb⟩
        have HOWN := Lib.hid (HO1.out.step hb)
        have HB := Lib.hid (HB1.out.trans (hb.mono hsz1)); clear hb
        have hsz := HB.out.size
        by_cases hy : y ≤ c
        · have HY := Lib.hid hy
          obtain ⟨hi, hz0, hzz1, hzz2⟩ := HI.out
          go_wp2_with (at_builtin; refine wpList_append_own _ rfl _ _ 26 rfl w.heap.size 3 i0 (.int .i64 0) 1 8 Tryd.underlying26 hi hz0 hzz1 hzz2 rfl (by decide) _ _ _ rfl (World.ownsRow.alloc HOWN.out _) ⟨_, 0, none⟩ 1 1 [.int .i64 m] rfl rfl ?c1 ?c2 ?c3 ?c4 ?c5 ?_)
          case c1 => exact cell_one_new _ _ _
          case c2 => simp [Value.oneCell']
          case c3 => unfold maxLen; omega
          case c4 => omega
          case c5 => simp; omega
          intro v' w2 hown hgrow _
          have HB2 := Lib.hid (HB.out.trans (grown_below HOWN.out hsz hgrow))
          have HO2 := Lib.hid (Ints.more hown); clear hown hgrow
          go_wp2_with fail
          exact ⟨⟨m + 1, by omega, by go_num, by rw [HS.out, if_pos HY.out]; exact HO2.out, HB2.out⟩, by simp [intOf]; omega⟩
        · have HY := Lib.hid hy
          go_wp2_with fail
          exact ⟨⟨m + 1, by omega, by go_num, by rw [HS.out, if_neg (by have := HY.out; omega)]; exact HOWN.out, HB.out⟩, by simp [intOf]; omega⟩
      · obtain rfl : m = 12 := by omega
        go_wp2_with fail
        go_ret
        exact ⟨_, rfl, by rw [← HR2.out]; exact HOWN.out, HB.out⟩
end Go.Proofs.YtghpbdgghliieaaDoor
