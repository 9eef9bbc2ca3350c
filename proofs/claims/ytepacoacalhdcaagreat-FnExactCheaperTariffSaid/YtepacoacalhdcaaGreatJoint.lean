/-
  CountJoints, of the model and of the program.
-/
import Derived.Test.YtepacoacalhdcaaGreatG5
import Derived.Test.YtepacoacalhdcaaGreatAro
namespace Go.Proofs.YtepacoacalhdcaaGreat
open Go.RowKit
set_option linter.unusedVariables false
set_option linter.unusedSimpArgs false

theorem insL_length (lt : Int → Int → Bool) (d : Int) (l : List Int) : (insL lt d l).length = l.length + 1 := by
  unfold insL; exact insM_len _ _ _ _ (Nat.le_refl _)

/-- As many darts begin at a node as leads lie at it. -/
theorem aro_degJ {ns ls : List Nd} (hw : winB ns ls = true) (k : Nat) : ∀ n, n ≤ ls.length → (aroL ns ls k (2 * n)).length = (atL ls k n).length
  | 0, _ => rfl
  | n + 1, h => by
    have ih := aro_degJ hw k n (by omega)
    obtain ⟨p, q, e, hpq, _⟩ := leadOkB_spec (((winB_iff ns ls).1 hw).2.2 n (by omega)).1
    have d1 : dF ls (2 * n) = p := by unfold dF; rw [if_neg (by omega), show 2 * n / 2 = n from by omega, e]
    have d2 : dF ls (2 * n + 1) = q := by unfold dF; rw [if_pos (by omega), show (2 * n + 1) / 2 = n from by omega, e]
    have a1 : (aroL ns ls k (2 * n + 1)).length = (aroL ns ls k (2 * n)).length + if (p : Int) = k then 1 else 0 := by
      rw [aroL, d1]
      split
      · rw [insL_length]
      · rfl
    have a2 : (aroL ns ls k (2 * (n + 1))).length = (aroL ns ls k (2 * n + 1)).length + if (q : Int) = k then 1 else 0 := by
      rw [show 2 * (n + 1) = 2 * n + 1 + 1 from by omega, aroL, d2]
      split
      · rw [insL_length]
      · rfl
    have a3 : (atL ls k (n + 1)).length = (atL ls k n).length + if (p : Int) = k ∨ (q : Int) = k then 1 else 0 := by
      rw [atL, e]
      split
      · simp
      · rfl
    rw [a2, a1, a3, ih]
    by_cases h1 : (p : Int) = k
    · rw [if_pos h1, if_neg (show ¬ (q : Int) = k by omega), if_pos (.inl h1)]
    · by_cases h2 : (q : Int) = k
      · rw [if_neg h1, if_pos h2, if_pos (.inr h2)]
      · rw [if_neg h1, if_neg h2, if_neg (by omega)]

theorem deg_nat {ns ls : List Nd} (hw : winB ns ls = true) {k : Nat} (hk : k < ns.length) : degI ns ls k = ((aroL ns ls k (2 * ls.length)).length : Int) := by
  have hh : hasB ns ls k = true := by unfold hasB idxB; rw [hw]; simp; omega
  unfold degI atsI
  rw [if_pos hh, if_pos hh, aro_degJ hw k _ (Nat.le_refl _)]

/-- How many of the first n nodes join two leads or more. -/
def cntJ (ns ls : List Nd) : Nat → Nat
  | 0 => 0
  | n + 1 => if degI ns ls n < 2 then cntJ ns ls n else cntJ ns ls n + 1

theorem cntJ_le (ns ls : List Nd) : ∀ n, cntJ ns ls n ≤ n
  | 0 => Nat.le_refl _
  | n + 1 => by
    have := cntJ_le ns ls n
    unfold cntJ
    split <;> omega

def jointI (ns ls : List Nd) : Int := if winB ns ls = true then ((cntJ ns ls ns.length : Nat) : Int) else -1

set_option maxRecDepth 100000 in
theorem implJoint (ns ls : List Nd) (vn vl : Value) (w : World) (hn : Prs w vn ns) (hl : Prs w vl ls) :
    Calls Tryz.prog 103 #[.agg #[vn, vl]] w (IntIs (jointI ns ls) w) := by
  have HN := Lib.hid hn
  have HL := Lib.hid hl
  have hlen := hn.len
  obtain ⟨A, c, rfl⟩ := prs_form2 hn
  obtain ⟨A2, c2, rfl⟩ := prs_form2 hl
  clear hn hl
  have H0 := Lib.hid (held_pair w (.slice A ns.length c) (.slice A2 ls.length c2) 32)
  have HW := Lib.hid (fun w h1 h2 => implWin ns ls (.slice A ns.length c) (.slice A2 ls.length c2) w h1 h2)
  have HD := Lib.hid (fun (m : Nat) w h1 h2 => implDeg ns ls (.slice A ns.length c) (.slice A2 ls.length c2) m w h1 h2)
  have HR := Lib.hid (show jointI ns ls = if winB ns ls = true then ((cntJ ns ls ns.length : Nat) : Int) else -1 from rfl)
  have HST := Lib.hid (fun n => (show cntJ ns ls (n + 1) = if degI ns ls n < 2 then cntJ ns ls n else cntJ ns ls n + 1 from rfl))
  have HLE := Lib.hid (cntJ_le ns ls)
  have HZ := Lib.hid (show cntJ ns ls 0 = 0 from rfl)
  generalize jointI ns ls = r at *
  generalize winB ns ls = d at *
  generalize cntJ ns ls = C at *
  generalize degI ns ls = G at *
  cases d
  · go_enter Tryz.func103, Tryz.ntmps103
    go_wp2_with fail
    refine (HW.out _ (HN.out.step H0.out.below) (HL.out.step H0.out.below)).mono ?_
    rintro e wH1 ⟨rfl, hb⟩
    have H1 := Lib.hid ((H0.out).step hb); clear hb
    try clear x0 x1
    obtain ⟨x0, x1, _⟩ := H1.out.1
    go_wp2_with fail
    go_ret
    exact ⟨ret_int (by rw [HR.out]; simp), H1.out.below⟩
  · go_enter Tryz.func103, Tryz.ntmps103
    go_wp2_with fail
    refine (HW.out _ (HN.out.step H0.out.below) (HL.out.step H0.out.below)).mono ?_
    rintro e wH1 ⟨rfl, hb⟩
    have H1 := Lib.hid ((H0.out).step hb); clear hb
    try clear x0 x1
    obtain ⟨x0, x1, _⟩ := H1.out.1
    go_wp2_with fail
    go_loopw [3, 11] (fun v i wr => ∃ m : Nat, m ≤ ns.length ∧ i = .int .i64 m ∧ v = .int .i64 (C m : Nat) ∧ Held w wr [(w.heap.size, 0, .slice A ns.length c), (w.heap.size, 1, .slice A2 ls.length c2)]) (fun _ i _ => ns.length - (intOf i).toNat)
    case atStart => exact ⟨0, Nat.zero_le _, rfl, by rw [HZ.out]; rfl, H1.out⟩
    case round =>
      clear H0 H1
      obtain ⟨m, hm, rfl, rfl, hh⟩ := hrel
      have H1 := Lib.hid hh; clear hh
      by_cases hlt : m < ns.length
      · have HS := Lib.hid (HST.out m)
        have hle := HLE.out m
        have HDm := Lib.hid (HD.out m)
        have hz1 : (m : Int) < (ns.length : Int) := by omega
        have hz2 : (0 : Int) ≤ m := by omega
        generalize G m = g at *
        generalize C m = q at *
        obtain ⟨x0, x1, _⟩ := H1.out.1
        by_cases hz : g < 2
        · have HZ := Lib.hid hz
          go_wp2_with fail
          refine (HDm.out _ (HN.out.step H1.out.below) (HL.out.step H1.out.below)).mono ?_
          rintro e wH2 ⟨rfl, hb⟩
          have H2 := Lib.hid ((H1.out).step hb); clear hb
          try clear x0 x1
          obtain ⟨x0, x1, _⟩ := H2.out.1
          go_wp2_with fail
          exact ⟨⟨m + 1, by omega, by go_num, by rw [HS.out, if_pos (by have := HZ.out; omega)], H2.out⟩, by simp [intOf]; omega⟩
        · have HZ := Lib.hid hz
          go_wp2_with fail
          refine (HDm.out _ (HN.out.step H1.out.below) (HL.out.step H1.out.below)).mono ?_
          rintro e wH2 ⟨rfl, hb⟩
          have H2 := Lib.hid ((H1.out).step hb); clear hb
          try clear x0 x1
          obtain ⟨x0, x1, _⟩ := H2.out.1
          go_wp2_with fail
          exact ⟨⟨m + 1, by omega, by go_num, by rw [HS.out, if_neg (by have := HZ.out; omega)]; go_num, H2.out⟩, by simp [intOf]; omega⟩
      · obtain rfl : m = ns.length := by omega
        go_wp2_with fail
        go_ret
        exact ⟨ret_int (by rw [HR.out]; simp), H1.out.below⟩

set_option maxRecDepth 100000 in
theorem specJoint (ns ls : List Nd) (vn vl : Value) (w : World) (hn : Prs w vn ns) (hl : Prs w vl ls) :
    Calls Tryz.prog 99 #[.agg #[vn, vl]] w (IntIs (jointI ns ls) w) := by
  have HN := Lib.hid hn
  have HL := Lib.hid hl
  have hlen := hn.len
  obtain ⟨A, c, rfl⟩ := prs_form2 hn
  obtain ⟨A2, c2, rfl⟩ := prs_form2 hl
  clear hn hl
  have H0 := Lib.hid (held_pair w (.slice A ns.length c) (.slice A2 ls.length c2) 32)
  have HW := Lib.hid (fun w h1 h2 => specWin ns ls (.slice A ns.length c) (.slice A2 ls.length c2) w h1 h2)
  have HD := Lib.hid (fun (m : Nat) w h1 h2 hw hk => specAro ns ls (.slice A ns.length c) (.slice A2 ls.length c2) m w h1 h2 hw hk)
  have HG := Lib.hid (fun (hw : winB ns ls = true) (k : Nat) (hk : k < ns.length) => deg_nat hw hk)
  have HR := Lib.hid (show jointI ns ls = if winB ns ls = true then ((cntJ ns ls ns.length : Nat) : Int) else -1 from rfl)
  have HST := Lib.hid (fun n => (show cntJ ns ls (n + 1) = if degI ns ls n < 2 then cntJ ns ls n else cntJ ns ls n + 1 from rfl))
  have HLE := Lib.hid (cntJ_le ns ls)
  have HZ := Lib.hid (show cntJ ns ls 0 = 0 from rfl)
  unfold IntsNew at HD
  generalize jointI ns ls = r at *
  generalize winB ns ls = d at *
  generalize cntJ ns ls = C at *
  generalize degI ns ls = G at *
  cases d
  · go_enter Tryz.func99, Tryz.ntmps99
    go_wp2_with fail
    refine (HW.out _ (HN.out.step H0.out.below) (HL.out.step H0.out.below)).mono ?_
    rintro e wH1 ⟨rfl, hb⟩
    have H1 := Lib.hid ((H0.out).step hb); clear hb
    try clear x0 x1
    obtain ⟨x0, x1, _⟩ := H1.out.1
    go_wp2_with fail
    go_ret
    exact ⟨ret_int (by rw [HR.out]; simp), H1.out.below⟩
  · have HD2 := Lib.hid (fun m w h1 h2 hk => HD.out m w h1 h2 rfl hk)
    have HG2 := Lib.hid (fun k hk => HG.out rfl k hk)
    clear HD HG
    go_enter Tryz.func99, Tryz.ntmps99
    go_wp2_with fail
    refine (HW.out _ (HN.out.step H0.out.below) (HL.out.step H0.out.below)).mono ?_
    rintro e wH1 ⟨rfl, hb⟩
    have H1 := Lib.hid ((H0.out).step hb); clear hb
    try clear x0 x1
    obtain ⟨x0, x1, _⟩ := H1.out.1
    go_wp2_with fail
    go_loopw [3, 4] (fun v i wr => ∃ m : Nat, m ≤ ns.length ∧ i = .int .i64 m ∧ v = .int .i64 (C m : Nat) ∧ Held w wr [(w.heap.size, 0, .slice A ns.length c), (w.heap.size, 1, .slice A2 ls.length c2)]) (fun _ i _ => ns.length - (intOf i).toNat)
    case atStart => exact ⟨0, Nat.zero_le _, rfl, by rw [HZ.out]; rfl, H1.out⟩
    case round =>
      clear H0 H1
      obtain ⟨m, hm, rfl, rfl, hh⟩ := hrel
      have H1 := Lib.hid hh; clear hh
      by_cases hlt : m < ns.length
      · have HS := Lib.hid (HST.out m)
        have hle := HLE.out m
        have HDm := Lib.hid (fun w h1 h2 => HD2.out m w h1 h2 hlt)
        have hgm := HG2.out m hlt
        rw [hgm] at HS
        clear hgm
        have hz1 : (m : Int) < (ns.length : Int) := by omega
        have hz2 : (0 : Int) ≤ m := by omega
        generalize aroL ns ls m (2 * ls.length) = xs at *
        generalize C m = q at *
        obtain ⟨x0, x1, _⟩ := H1.out.1
        go_wp2_with fail
        refine (HDm.out _ (HN.out.step H1.out.below) (HL.out.step H1.out.below)).mono ?_
        rintro e w2 ⟨v, rfl, hi, hb⟩
        have H2 := Lib.hid (H1.out.step hb); clear hb
        obtain ⟨a, cp, rfl, hlm, _⟩ := hi.form
        clear hi
        unfold maxLen at hlm
        by_cases hz : (xs.length : Int) < 2
        · have HZ2 := Lib.hid hz
          have hzn : xs.length < 2 := by omega
          go_wp2_with fail
          exact ⟨⟨m + 1, by omega, by go_num, by rw [HS.out, if_pos (by have := HZ2.out; omega)], H2.out⟩, by simp [intOf]; omega⟩
        · have HZ2 := Lib.hid hz
          have hzn : 2 ≤ xs.length := by omega
          go_wp2_with fail
          exact ⟨⟨m + 1, by omega, by go_num, by rw [HS.out, if_neg (by have := HZ2.out; omega)]; go_num, H2.out⟩, by simp [intOf]; omega⟩
      · obtain rfl : m = ns.length := by omega
        obtain ⟨x0, x1, _⟩ := H1.out.1
        go_wp2_with fail
        go_ret
        exact ⟨ret_int (by rw [HR.out]; simp), H1.out.below⟩
end Go.Proofs.YtepacoacalhdcaaGreat
