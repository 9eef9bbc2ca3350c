/-
  Whether two windows are the same, of the model and of the program.
-/
import Derived.Test.YtghpbdgghliieabSameS
import Derived.Test.YtghpbdgghliieabLawW
import Derived.Test.YtghpbdgghliieabWinI
namespace Go.Proofs.Ytghpbdgghliieab
open Go.RowKit
set_option linter.unusedVariables false
set_option linter.unusedSimpArgs false

theorem szWindow_left (n1 c1 n2 c2 : Nat) (A1 A2 : Option Addr) (left : Int) (w : World) (hl0 : 0 ≤ left) (hl9 : left ≤ 1048576) (h1 : n1 ≤ 9223372036854775807) (h2 : n2 ≤ 9223372036854775807) :
    Calls Try.prog 33 #[.agg #[.slice A1 n1 c1, .slice A2 n2 c2], .int .i64 left] w (fun e w' => ∃ r : Int, e = .returned (.int .i64 r) ∧ (r < 0 ∨ 0 ≤ r ∧ r ≤ left ∧ n1 ≤ 1048576 ∧ n2 ≤ 1048576) ∧ Below w.heap.size w w') := by
  have HZ := Lib.hid (fun w => szNodeS_any n1 c1 A1 left w (by omega) (by omega) h1)
  have H0 := Lib.hid ((Held.none_ w).new2 w.heap.size rfl [.slice A1 n1 c1, .slice A2 n2 c2] 53)
  by_cases hb : left < n1
  · rw [if_pos hb] at HZ
    go_enter Try.func33, Try.ntmps33
    go_wp2_with fail
    refine (HZ.out _).mono ?_
    rintro e w1 ⟨rfl, rfl⟩
    go_wp2_with fail
    go_ret
    exact ⟨-1, rfl, by omega, H0.out.below⟩
  rw [if_neg hb] at HZ
  have HY := Lib.hid (fun w => szLeadS_any n2 c2 A2 (left - n1) w (by omega) (by omega) h2)
  by_cases hb2 : left - n1 < n2
  · rw [if_pos hb2] at HY
    go_enter Try.func33, Try.ntmps33
    go_wp2_with fail
    refine (HZ.out _).mono ?_
    rintro e w1 ⟨rfl, rfl⟩
    go_wp2_with fail
    refine (HY.out _).mono ?_
    rintro e w1 ⟨rfl, rfl⟩
    go_wp2_with fail
    go_ret
    exact ⟨-1, rfl, by omega, H0.out.below⟩
  · rw [if_neg hb2] at HY
    go_enter Try.func33, Try.ntmps33
    go_wp2_with fail
    refine (HZ.out _).mono ?_
    rintro e w1 ⟨rfl, rfl⟩
    go_wp2_with fail
    refine (HY.out _).mono ?_
    rintro e w1 ⟨rfl, rfl⟩
    go_wp2_with fail
    go_ret
    exact ⟨_, rfl, by omega, H0.out.below⟩

theorem eqLdW (a b : Nd) (w : World) : (Op.equalIn 10000 86 (.agg #[.int .i64 a.x, .int .i64 a.y]) (.agg #[.int .i64 b.x, .int .i64 b.y])).run Try.prog w = .ok (decide (a = b)) w := by
  obtain ⟨ax, ay⟩ := a
  obtain ⟨bx, by'⟩ := b
  simp only [Nd.mk.injEq]
  by_cases h1 : ax = bx
  · subst h1
    by_cases h2 : ay = by'
    · subst h2; go_simp
    · have h3 : (ay == by') = false := by rw [beq_eq_false_iff_ne]; exact h2
      go_simp
  · have h3 : (ax == bx) = false := by rw [beq_eq_false_iff_ne]; exact h1
    go_simp

set_option maxRecDepth 100000 in
theorem equalL (xs ys : List Nd) (v u : Value) (w : World) (hv : Prs w v xs) (hu : Prs w u ys) :
    Calls Try.prog 62 #[v, u] w (BoolIs (decide (xs = ys)) w) := by
  have hlx := hv.len
  have hly := hu.len
  have HV := Lib.hid hv
  have HU := Lib.hid hu
  obtain ⟨A, c, rfl⟩ := prs_form2 hv
  obtain ⟨A2, c2, rfl⟩ := prs_form2 hu
  clear hv hu
  have HR := Lib.hid (show decide (xs = ys) = true ↔ xs = ys from by simp)
  generalize decide (xs = ys) = r at *
  by_cases hl : xs.length = ys.length
  case neg =>
    have HL := Lib.hid hl
    have g : ((xs.length : Int) == (ys.length : Int)) = false := by rw [beq_eq_false_iff_ne]; omega
    have gb : ((xs.length : Int) != (ys.length : Int)) = true := by simp [bne, g]
    clear hl
    go_enter Try.func62, Try.ntmps62
    go_wp2_with fail
    go_ret
    exact ⟨ret_bool (by by_cases hr : r = true; (· have h1 := HR.out.1 hr; exact absurd (by rw [h1]) HL.out); (· simpa using hr)), Below.refl _ _⟩
  · have HL := Lib.hid hl
    have g : ((xs.length : Int) == (ys.length : Int)) = true := by simp [hl]
    have gb : ((xs.length : Int) != (ys.length : Int)) = false := by simp [bne, g]
    clear hl
    go_enter Try.func62, Try.ntmps62
    go_wp2_with fail
    go_loopw [13] (fun i wr => ∃ m n : Nat, m ≤ xs.length ∧ i = .int .i64 m ∧ (∀ k, k < m → atN xs k = atN ys k) ∧ wr = w.drewN n) (fun i _ => xs.length - (intOf i).toNat)
    case atStart => exact ⟨0, 0, Nat.zero_le _, rfl, fun k h => absurd h (by omega), rfl⟩
    case round =>
      obtain ⟨m, n, hm, rfl, ha, rfl⟩ := hrel
      have HA := Lib.hid ha; clear ha
      by_cases hlt : m < xs.length
      · obtain ⟨bb, o, c', he, hbl, hcs⟩ := prs_at2 HV.out hlt
        injection he with he1 he2 he3
        subst he1
        clear he2 he3
        obtain ⟨b2, o2, c3, he, hbl2, hcs2⟩ := prs_at2 HU.out (show m < ys.length by have := HL.out; omega)
        injection he with he1 he2 he3
        subst he1
        clear he2 he3
        obtain ⟨p0, p1⟩ := hcs m hlt
        obtain ⟨q0, q1⟩ := hcs2 m (by have := HL.out; omega)
        clear hcs hcs2
        have q := eqLdW (atN xs m) (atN ys m)
        have HD := Lib.hid (show decide (atN xs m = atN ys m) = true ↔ atN xs m = atN ys m from by simp)
        have HZ := Lib.hid (show ∀ k, k < m + 1 → k < m ∨ k = m from fun k h => by omega)
        have hz1 : (m : Int) < (xs.length : Int) := by omega
        have hz2 : (0 : Int) ≤ m := by omega
        have hz3 : (m : Int) < (ys.length : Int) := by have := HL.out; omega
        generalize decide (atN xs m = atN ys m) = d at *
        generalize (atN xs m).x = x1 at *
        generalize (atN xs m).y = y1 at *
        generalize (atN ys m).x = x2 at *
        generalize (atN ys m).y = y2 at *
        cases d
        · go_wp2_with fail
          go_quiet (fail)
          go_wp2_with fail
          go_ret
          exact ⟨ret_bool (by by_cases hr : r = true; (· have h1 := HR.out.1 hr; have h2 := HD.out.2 (by rw [h1]); cases h2); (· simpa using hr)), below_drewN (below_drewN (Below.refl _ _) _) _⟩
        · go_wp2_with fail
          go_quiet (fail)
          go_wp2_with fail
          exact ⟨⟨m + 1, _, by omega, by go_num, fun k h => by rcases HZ.out k h with h | rfl; exact HA.out k h; exact HD.out.1 trivial, rfl⟩, by simp [intOf]; omega⟩
      · obtain rfl : m = xs.length := by omega
        go_wp2_with fail
        go_ret
        exact ⟨ret_bool (HR.out.2 (list_ext_at HL.out HA.out)).symm, below_drewN (Below.refl _ _) _⟩

def sameWB (ns ls ms ks : List Nd) : Bool := decide (ns = ms) && decide (ls = ks)

set_option maxRecDepth 100000 in
theorem implSameW (ns ls ms ks : List Nd) (vn vl vm vk : Value) (w : World) (hn : Prs w vn ns) (hl : Prs w vl ls) (hm : Prs w vm ms) (hk : Prs w vk ks) :
    Calls Try.prog 40 #[.agg #[vn, vl], .agg #[vm, vk]] w (BoolIs (sameWB ns ls ms ks) w) := by
  have HX := Lib.hid (fun w h1 h2 => equalN ns ms vn vm w h1 h2)
  have HY := Lib.hid (fun w h1 h2 => equalL ls ks vl vk w h1 h2)
  have HN := Lib.hid hn
  have HL := Lib.hid hl
  have HM := Lib.hid hm
  have HK := Lib.hid hk
  obtain ⟨A, c, rfl⟩ := prs_form2 hn
  obtain ⟨A2, c2, rfl⟩ := prs_form2 hl
  obtain ⟨A3, c3, rfl⟩ := prs_form2 hm
  obtain ⟨A4, c4, rfl⟩ := prs_form2 hk
  clear hn hl hm hk
  have H0 := Lib.hid ((held_pair w (.slice A ns.length c) (.slice A2 ls.length c2) 61).new2 (w.heap.size + 1) (by simp) [.slice A3 ms.length c3, .slice A4 ks.length c4] 61)
  simp only [newFs, List.cons_append, List.nil_append, List.append_nil] at H0
  have HR := Lib.hid (show sameWB ns ls ms ks = (decide (ns = ms) && decide (ls = ks)) from rfl)
  generalize sameWB ns ls ms ks = r at *
  generalize decide (ns = ms) = d1 at *
  generalize decide (ls = ks) = d2 at *
  cases d1 <;> cases d2
  all_goals
    go_enter Try.func40, Try.ntmps40
    go_wp2_with fail
    repeat' (first | ((first | (with_reducible refine (HX.out _ (HN.out.step H0.out.below) (HM.out.step H0.out.below)).mono ?_) | (with_reducible refine (HY.out _ (HL.out.step H0.out.below) (HK.out.step H0.out.below)).mono ?_) | fail); rintro e wn ⟨rfl, hb⟩; have H0 := Lib.hid (H0.out.step hb); clear hb; (try clear x0 x1 x2 x3); obtain ⟨x0, x1, x2, x3, _⟩ := H0.out.1; go_wp2_with fail) | fail)
    go_ret
    exact ⟨ret_bool (by rw [HR.out]; simp), H0.out.below⟩

set_option maxRecDepth 100000 in
theorem specSameW (ns ls ms ks : List Nd) (vn vl vm vk : Value) (w : World) (hn : Prs w vn ns) (hl : Prs w vl ls) (hm : Prs w vm ms) (hk : Prs w vk ks) :
    Calls Try.prog 39 #[.agg #[vn, vl], .agg #[vm, vk]] w (BoolIs (sameWB ns ls ms ks) w) := by
  have hl1 := hn.len
  have hl2 := hl.len
  have HN := Lib.hid hn
  have HL := Lib.hid hl
  have HM := Lib.hid hm
  have HK := Lib.hid hk
  obtain ⟨A, c, rfl⟩ := prs_form2 hn
  obtain ⟨A2, c2, rfl⟩ := prs_form2 hl
  obtain ⟨A3, c3, rfl⟩ := prs_form2 hm
  obtain ⟨A4, c4, rfl⟩ := prs_form2 hk
  clear hn hl hm hk
  have H0 := Lib.hid ((held_pair w (.slice A ns.length c) (.slice A2 ls.length c2) 61).new2 (w.heap.size + 1) (by simp) [.slice A3 ms.length c3, .slice A4 ks.length c4] 61)
  simp only [newFs, List.cons_append, List.nil_append, List.append_nil] at H0
  have HR := Lib.hid (show sameWB ns ls ms ks = true ↔ ns = ms ∧ ls = ks from by unfold sameWB; simp)
  generalize sameWB ns ls ms ks = r at *
  by_cases e1 : ns.length = ms.length
  case neg =>
    have HQ := Lib.hid e1
    have g : ((ns.length : Int) == (ms.length : Int)) = false := by rw [beq_eq_false_iff_ne]; omega
    have gb : ((ns.length : Int) != (ms.length : Int)) = true := by simp [bne, g]
    clear e1
    go_enter Try.func39, Try.ntmps39
    go_wp2_with fail
    go_ret
    exact ⟨ret_bool (by by_cases hr : r = true; (· have h1 := (HR.out.1 hr).1; exact absurd (by rw [h1]) HQ.out); (· simpa using hr)), H0.out.below⟩
  have HE1 := Lib.hid e1
  have g : ((ns.length : Int) == (ms.length : Int)) = true := by simp [e1]
  have gb : ((ns.length : Int) != (ms.length : Int)) = false := by simp [bne, g]
  clear e1
  by_cases e2 : ls.length = ks.length
  case neg =>
    have HQ := Lib.hid e2
    have g2 : ((ls.length : Int) == (ks.length : Int)) = false := by rw [beq_eq_false_iff_ne]; omega
    have gb2 : ((ls.length : Int) != (ks.length : Int)) = true := by simp [bne, g2]
    clear e2
    go_enter Try.func39, Try.ntmps39
    go_wp2_with fail
    go_ret
    exact ⟨ret_bool (by by_cases hr : r = true; (· have h1 := (HR.out.1 hr).2; exact absurd (by rw [h1]) HQ.out); (· simpa using hr)), H0.out.below⟩
  have HE2 := Lib.hid e2
  have g2 : ((ls.length : Int) == (ks.length : Int)) = true := by simp [e2]
  have gb2 : ((ls.length : Int) != (ks.length : Int)) = false := by simp [bne, g2]
  clear e2
  go_enter Try.func39, Try.ntmps39
  go_wp2_with fail
  go_loopw [5] (fun i wr => ∃ m : Nat, m ≤ ns.length ∧ i = .int .i64 m ∧ (∀ k, k < m → atN ns k = atN ms k) ∧ Held w wr [(w.heap.size + 1, 0, .slice A3 ms.length c3), (w.heap.size + 1, 1, .slice A4 ks.length c4), (w.heap.size, 0, .slice A ns.length c), (w.heap.size, 1, .slice A2 ls.length c2)]) (fun i _ => ns.length - (intOf i).toNat)
  case atStart => exact ⟨0, Nat.zero_le _, rfl, fun k h => absurd h (by omega), H0.out⟩
  case round =>
    clear H0
    obtain ⟨m, hm, hi, ha, hh⟩ := hrel
    obtain rfl := hi
    have HA := Lib.hid ha; clear ha
    have H1 := Lib.hid hh; clear hh
    obtain ⟨x0, x1, x2, x3, _⟩ := H1.out.1
    by_cases hlt : m < ns.length
    · obtain ⟨bb, o, c', he, hbl, hcs⟩ := prs_at2 (HN.out.step H1.out.below) hlt
      injection he with he1 he2 he3
      subst he1
      clear he2 he3
      obtain ⟨b2, o2, c3, he, hbl2, hcs2⟩ := prs_at2 (HM.out.step H1.out.below) (show m < ms.length by have := HE1.out; omega)
      injection he with he1 he2 he3
      subst he1
      clear he2 he3
      obtain ⟨p0, p1⟩ := hcs m hlt
      obtain ⟨q0, q1⟩ := hcs2 m (by have := HE1.out; omega)
      clear hcs hcs2
      have q := eqNd (atN ns m) (atN ms m)
      have HD := Lib.hid (show decide (atN ns m = atN ms m) = true ↔ atN ns m = atN ms m from by simp)
      have HZ := Lib.hid (show ∀ k, k < m + 1 → k < m ∨ k = m from fun k h => by omega)
      have hz1 : (m : Int) < (ns.length : Int) := by omega
      have hz2 : (0 : Int) ≤ m := by omega
      have hz3 : (m : Int) < (ms.length : Int) := by have := HE1.out; omega
      generalize decide (atN ns m = atN ms m) = d at *
      generalize (atN ns m).x = xx1 at *
      generalize (atN ns m).y = yy1 at *
      generalize (atN ms m).x = xx2 at *
      generalize (atN ms m).y = yy2 at *
      cases d
      · go_wp2_with fail
        go_quiet (fail)
        go_wp2_with fail
        go_ret
        exact ⟨ret_bool (by by_cases hr : r = true; (· have h1 := (HR.out.1 hr).1; have h2 := HD.out.2 (by rw [h1]); cases h2); (· simpa using hr)), (H1.out.drewN _).below⟩
      · go_wp2_with fail
        go_quiet (fail)
        go_wp2_with fail
        exact ⟨⟨m + 1, by omega, by go_num, fun k h => by rcases HZ.out k h with h | rfl; exact HA.out k h; exact HD.out.1 trivial, H1.out.drewN _⟩, by simp [intOf]; omega⟩
    · obtain rfl : m = ns.length := by omega
      have HNM := Lib.hid (show ns = ms from list_ext_at HE1.out HA.out)
      clear HA
      go_wp2_with fail
      go_loopw [6] (fun i wr => ∃ m : Nat, m ≤ ls.length ∧ i = .int .i64 m ∧ (∀ k, k < m → atN ls k = atN ks k) ∧ Held w wr [(w.heap.size + 1, 0, .slice A3 ms.length c3), (w.heap.size + 1, 1, .slice A4 ks.length c4), (w.heap.size, 0, .slice A ns.length c), (w.heap.size, 1, .slice A2 ls.length c2)]) (fun i _ => ls.length - (intOf i).toNat)
      case atStart => exact ⟨0, Nat.zero_le _, rfl, fun k h => absurd h (by omega), H1.out⟩
      case round =>
        clear H1 x0 x1 x2 x3
        obtain ⟨m, hm, hi, ha, hh⟩ := hrel
        obtain rfl := hi
        have HA := Lib.hid ha; clear ha
        have H1 := Lib.hid hh; clear hh
        obtain ⟨x0, x1, x2, x3, _⟩ := H1.out.1
        by_cases hlt : m < ls.length
        · obtain ⟨bb, o, c', he, hbl, hcs⟩ := prs_at2 (HL.out.step H1.out.below) hlt
          injection he with he1 he2 he3
          subst he1
          clear he2 he3
          obtain ⟨b2, o2, c3, he, hbl2, hcs2⟩ := prs_at2 (HK.out.step H1.out.below) (show m < ks.length by have := HE2.out; omega)
          injection he with he1 he2 he3
          subst he1
          clear he2 he3
          obtain ⟨p0, p1⟩ := hcs m hlt
          obtain ⟨q0, q1⟩ := hcs2 m (by have := HE2.out; omega)
          clear hcs hcs2
          have q := eqLdW (atN ls m) (atN ks m)
          have HD := Lib.hid (show decide (atN ls m = atN ks m) = true ↔ atN ls m = atN ks m from by simp)
          have HZ := Lib.hid (show ∀ k, k < m + 1 → k < m ∨ k = m from fun k h => by omega)
          have hz1 : (m : Int) < (ls.length : Int) := by omega
          have hz2 : (0 : Int) ≤ m := by omega
          have hz3 : (m : Int) < (ks.length : Int) := by have := HE2.out; omega
          generalize decide (atN ls m = atN ks m) = d at *
          generalize (atN ls m).x = xx1 at *
          generalize (atN ls m).y = yy1 at *
          generalize (atN ks m).x = xx2 at *
          generalize (atN ks m).y = yy2 at *
          cases d
          · go_wp2_with fail
            go_quiet (fail)
            go_wp2_with fail
            go_ret
            exact ⟨ret_bool (by by_cases hr : r = true; (· have h1 := (HR.out.1 hr).2; have h2 := HD.out.2 (by rw [h1]); cases h2); (· simpa using hr)), (H1.out.drewN _).below⟩
          · go_wp2_with fail
            go_quiet (fail)
            go_wp2_with fail
            exact ⟨⟨m + 1, by omega, by go_num, fun k h => by rcases HZ.out k h with h | rfl; exact HA.out k h; exact HD.out.1 trivial, H1.out.drewN _⟩, by simp [intOf]; omega⟩
        · obtain rfl : m = ls.length := by omega
          go_wp2_with fail
          go_ret
          exact ⟨ret_bool (HR.out.2 ⟨HNM.out, list_ext_at HE2.out HA.out⟩).symm, H1.out.below⟩

end Go.Proofs.Ytghpbdgghliieab
