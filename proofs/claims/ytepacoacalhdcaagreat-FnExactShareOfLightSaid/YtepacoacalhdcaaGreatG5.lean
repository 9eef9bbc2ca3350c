/-
  Several texts in one: a claim has at most 60 files.
-/
import Derived.Test.YtepacoacalhdcaaGreatG2
import Derived.Test.YtepacoacalhdcaaGreatG24
import Derived.Test.YtepacoacalhdcaaGreatG39
import Derived.Test.YtepacoacalhdcaaGreatAro
import Derived.Test.YtepacoacalhdcaaGreatG3
import Derived.Test.YtepacoacalhdcaaGreatG1
import Derived.BigGuardPart
import Derived.Deep.QuietTactic
import Derived.BigQuiet
import Derived.Deep.Draws
import Derived.LoopTactic
import Derived.Outline
import Derived.Laws.StructEq

namespace Go.Proofs.YtepacoacalhdcaaGreat
open Go.RowKit
set_option linter.unusedVariables false
set_option linter.unusedSimpArgs false

def twinI (d : Int) : Int := if inB d 0 39 = true then bits .xor .i64 d 1 else -1

theorem implTwin (d : Int) (w : World) : Calls Tryz.prog 210 #[.int .i64 d] w (IntIs (twinI d) w) := by
  have hr : twinI d = if 0 ≤ d ∧ d ≤ 39 then bits .xor .i64 d 1 else -1 := by
    unfold twinI
    by_cases h : 0 ≤ d ∧ d ≤ 39
    · rw [if_pos h, if_pos (by simp [inB]; exact h)]
    · rw [if_neg h, if_neg (by simp [inB]; omega)]
  generalize twinI d = r at *
  have HR := Lib.hid hr; clear hr
  go_enter Tryz.func210, Tryz.ntmps210
  by_cases h0 : d < 0
  · go_wp2
    go_ret
    exact ⟨ret_int (by rw [HR.out, if_neg (by omega)]), Below.refl _ _⟩
  · by_cases h1 : 39 < d
    · go_wp2
      go_ret
      exact ⟨ret_int (by rw [HR.out, if_neg (by omega)]), Below.refl _ _⟩
    · go_wp2
      go_ret
      exact ⟨ret_int (by rw [HR.out, if_pos (by omega)]), Below.refl _ _⟩

/-- How many of the first n are not -1. -/
def cntW (xs : List Int) : Nat → Nat
  | 0 => 0
  | n + 1 => if atZ xs n = -1 then cntW xs n else cntW xs n + 1

theorem cntW_le (xs : List Int) : ∀ n, cntW xs n ≤ n
  | 0 => Nat.le_refl _
  | n + 1 => by
    have := cntW_le xs n
    unfold cntW
    split <;> omega

end Go.Proofs.YtepacoacalhdcaaGreat

namespace Go.Proofs.YtepacoacalhdcaaGreat
open Go.RowKit
set_option linter.unusedVariables false
set_option linter.unusedSimpArgs false

def degI (ns ls : List Nd) (k : Int) : Int := if hasB ns ls k = true then ((atsI ns ls k).length : Int) else -1

set_option maxRecDepth 100000 in
theorem implDeg (ns ls : List Nd) (vn vl : Value) (k : Int) (w : World) (hn : Prs w vn ns) (hl : Prs w vl ls) :
    Calls Tryz.prog 155 #[.agg #[vn, vl], .int .i64 k] w (IntIs (degI ns ls k) w) := by
  have HN := Lib.hid hn
  have HL := Lib.hid hl
  obtain ⟨A, c, rfl⟩ := prs_form2 hn
  obtain ⟨A2, c2, rfl⟩ := prs_form2 hl
  clear hn hl
  have H0 := Lib.hid (held_pair w (.slice A ns.length c) (.slice A2 ls.length c2) 32)
  have HW := Lib.hid (fun w h1 h2 => implHasNode ns ls (.slice A ns.length c) (.slice A2 ls.length c2) k w h1 h2)
  have HA := Lib.hid (fun w h1 h2 => implLeadsAt ns ls (.slice A ns.length c) (.slice A2 ls.length c2) k w h1 h2)
  unfold IntsNew at HA
  have HR := Lib.hid (show degI ns ls k = if hasB ns ls k = true then ((atsI ns ls k).length : Int) else -1 from rfl)
  generalize degI ns ls k = r at *
  generalize atsI ns ls k = xs at *
  generalize hasB ns ls k = d at *
  cases d
  · go_enter Tryz.func155, Tryz.ntmps155
    go_wp2_with fail
    refine (HW.out _ (HN.out.step H0.out.below) (HL.out.step H0.out.below)).mono ?_
    rintro e wH1 ⟨rfl, hb⟩
    have H1 := Lib.hid ((H0.out).step hb); clear hb
    try clear x0 x1
    obtain ⟨x0, x1, _⟩ := H1.out.1
    go_wp2_with fail
    go_ret
    exact ⟨ret_int (by rw [HR.out]; simp), H1.out.below⟩
  · go_enter Tryz.func155, Tryz.ntmps155
    go_wp2_with fail
    refine (HW.out _ (HN.out.step H0.out.below) (HL.out.step H0.out.below)).mono ?_
    rintro e wH1 ⟨rfl, hb⟩
    have H1 := Lib.hid ((H0.out).step hb); clear hb
    try clear x0 x1
    obtain ⟨x0, x1, _⟩ := H1.out.1
    go_wp2_with fail
    refine (HA.out _ (HN.out.step H1.out.below) (HL.out.step H1.out.below)).mono ?_
    rintro e w2 ⟨v, rfl, hi, hb⟩
    have H2 := Lib.hid (H1.out.step hb); clear hb
    obtain ⟨a, cp, rfl, hlm, _⟩ := hi.form
    clear hi
    unfold maxLen at hlm
    go_wp2_with fail
    go_ret
    exact ⟨ret_int (by rw [HR.out]; simp), H2.out.below⟩

end Go.Proofs.YtepacoacalhdcaaGreat

namespace Go.Proofs.YtepacoacalhdcaaGreat
open Go.RowKit
set_option linter.unusedVariables false
set_option linter.unusedSimpArgs false

def strB (ns ls : List Nd) (k : Int) : Bool :=
  decide ((atsI ns ls k).length = 2) && betweenB (atI ns (otherI (atI ls ((atsI ns ls k).getD 0 0)) k)) (atI ns (otherI (atI ls ((atsI ns ls k).getD 1 0)) k)) (atI ns k)

theorem atL_mem (ls : List Nd) (k : Int) : ∀ n x, x ∈ atL ls k n → ∃ i : Nat, x = i ∧ i < n ∧ ((atN ls i).x = k ∨ (atN ls i).y = k)
  | 0, x, h => by simp [atL] at h
  | n + 1, x, h => by
    unfold atL at h
    split at h
    · rename_i hk
      rcases List.mem_append.1 h with h | h
      · obtain ⟨i, e, hi, hh⟩ := atL_mem ls k n x h
        exact ⟨i, e, by omega, hh⟩
      · simp at h
        exact ⟨n, h, by omega, hk⟩
    · obtain ⟨i, e, hi, hh⟩ := atL_mem ls k n x h
      exact ⟨i, e, by omega, hh⟩

theorem atsI_mem {ns ls : List Nd} {k : Int} {x : Int} (h : x ∈ atsI ns ls k) : hasB ns ls k = true ∧ ∃ i : Nat, x = i ∧ i < ls.length ∧ ((atN ls i).x = k ∨ (atN ls i).y = k) := by
  unfold atsI at h
  split at h
  · rename_i hh
    exact ⟨hh, atL_mem _ _ _ _ h⟩
  · simp at h

theorem hasB_nat {ns ls : List Nd} {k : Int} (h : hasB ns ls k = true) : ∃ q : Nat, k = q ∧ q < ns.length ∧ winB ns ls = true ∧ ns.length ≤ 12 ∧ ls.length ≤ 20 := by
  unfold hasB at h
  simp only [Bool.and_eq_true] at h
  have h2 := (idxB_iff _ _).1 h.2
  have h3 := ((winB_iff ns ls).1 h.1).1
  exact ⟨k.toNat, by omega, by omega, h.1, h3.1.2, h3.2⟩

theorem other_nat {ns ls : List Nd} {i k : Nat} (hw : winB ns ls = true) (hi : i < ls.length) (h : (atN ls i).x = k ∨ (atN ls i).y = k) : ∃ a : Nat, otherI (atN ls i) k = a ∧ a < ns.length := by
  obtain ⟨p, q, e, hpq, hp, hq, _⟩ := leadOkB_spec (((winB_iff ns ls).1 hw).2.2 i hi).1
  rw [e] at h ⊢
  simp only at h
  unfold otherI
  simp only
  by_cases h1 : (k : Int) = (p : Int)
  · rw [if_pos h1]; exact ⟨q, rfl, hq⟩
  · rw [if_neg h1, if_pos (by omega)]; exact ⟨p, rfl, hp⟩

theorem str_two {ns ls : List Nd} {k : Int} (h : (atsI ns ls k).length = 2) : ∃ i j q a b : Nat, atsI ns ls k = [(i : Int), (j : Int)] ∧ k = q ∧ hasB ns ls k = true ∧ i < ls.length ∧ j < ls.length ∧ q < ns.length ∧
    otherI (atN ls i) q = a ∧ a < ns.length ∧ otherI (atN ls j) q = b ∧ b < ns.length ∧ strB ns ls k = betweenB (atN ns a) (atN ns b) (atN ns q) ∧ ns.length ≤ 12 ∧ ls.length ≤ 20 := by
  obtain ⟨x, y, e⟩ : ∃ x y, atsI ns ls k = [x, y] := by
    match hm : atsI ns ls k, h with
    | [x, y], _ => exact ⟨x, y, rfl⟩
  obtain ⟨hh, i, rfl, hi, hx⟩ := atsI_mem (ns := ns) (ls := ls) (k := k) (x := x) (by rw [e]; simp)
  obtain ⟨_, j, rfl, hj, hy⟩ := atsI_mem (ns := ns) (ls := ls) (k := k) (x := y) (by rw [e]; simp)
  obtain ⟨q, rfl, hq, hw, h12, h20⟩ := hasB_nat hh
  obtain ⟨a, ha, hal⟩ := other_nat hw hi hx
  obtain ⟨b, hb, hbl⟩ := other_nat hw hj hy
  refine ⟨i, j, q, a, b, e, rfl, hh, hi, hj, hq, ha, hal, hb, hbl, ?_, h12, h20⟩
  unfold strB
  rw [e]
  have e0 : atI ls ([(i : Int), (j : Int)].getD 0 0) = atN ls i := rfl
  have e1 : atI ls ([(i : Int), (j : Int)].getD 1 0) = atN ls j := rfl
  rw [e0, e1, ha, hb]
  rfl

theorem str_no {ns ls : List Nd} {k : Int} (h : (atsI ns ls k).length ≠ 2) : strB ns ls k = false := by
  unfold strB; rw [decide_eq_false h]; rfl

/-- The cells of nodes a, b, q and of leads i, j. -/
theorem str_cells {w W : World} {fs : List (Nat × Nat × Value)} {b1 o1 b2 o2 : Nat} {ns ls : List Nd} (h : Held w W fs) (h1 : CellsAt W b1 o1 ns) (hb1 : b1 < W.heap.size) (h2 : CellsAt W b2 o2 ls) (hb2 : b2 < W.heap.size)
    {i j a b q : Nat} (hi : i < ls.length) (hj : j < ls.length) (ha : a < ns.length) (hb : b < ns.length) (hq : q < ns.length) :
    Held w W (fs ++ (P1 b2 o2 ls i ++ (P1 b2 o2 ls j ++ (P1 b1 o1 ns a ++ (P1 b1 o1 ns b ++ P1 b1 o1 ns q))))) :=
  ⟨h.1.append ((P1_cs h2 hi).append ((P1_cs h2 hj).append ((P1_cs h1 ha).append ((P1_cs h1 hb).append (P1_cs h1 hq))))),
   h.2.1.append ((P1_bs hb2).append ((P1_bs hb2).append ((P1_bs hb1).append ((P1_bs hb1).append (P1_bs hb1))))), h.2.2⟩

theorem deg_two (ns ls : List Nd) (k : Int) : degI ns ls k = 2 ↔ (atsI ns ls k).length = 2 := by
  unfold degI
  by_cases h : hasB ns ls k = true
  · rw [if_pos h]; omega
  · rw [if_neg h]
    unfold atsI
    rw [if_neg h]
    simp

end Go.Proofs.YtepacoacalhdcaaGreat

namespace Go.Proofs.YtepacoacalhdcaaGreat
open Go.RowKit
set_option linter.unusedVariables false
set_option linter.unusedSimpArgs false

/-- The numbers before n at which p holds. -/
def fltL (p : Int → Bool) : Nat → List Int
  | 0 => []
  | n + 1 => if p n = true then fltL p n ++ [(n : Int)] else fltL p n

theorem fltL_len (p : Int → Bool) : ∀ n, (fltL p n).length ≤ n
  | 0 => Nat.le_refl _
  | n + 1 => by
    have := fltL_len p n
    unfold fltL
    split
    · simp; omega
    · omega

theorem fltL_none (p : Int → Bool) (h : ∀ k, p k = false) : ∀ n, fltL p n = []
  | 0 => rfl
  | n + 1 => by
    unfold fltL
    rw [h, fltL_none p h n]
    simp

theorem strB_has {ns ls : List Nd} {k : Int} (h : strB ns ls k = true) : hasB ns ls k = true := by
  by_cases h2 : (atsI ns ls k).length = 2
  · obtain ⟨_, _, _, _, _, _, _, hh, _⟩ := str_two h2; exact hh
  · rw [str_no h2] at h; cases h

def strsI (ns ls : List Nd) : List Int := fltL (strB ns ls) ns.length

theorem strsI_len (ns ls : List Nd) : (strsI ns ls).length ≤ 20 := by
  by_cases h : winB ns ls = true
  · have := fltL_len (strB ns ls) ns.length
    have := ((winB_iff ns ls).1 h).1.1.2
    unfold strsI; omega
  · unfold strsI
    rw [fltL_none _ (fun k => by
      by_cases hk : strB ns ls k = true
      · obtain ⟨_, _, _, hw, _⟩ := hasB_nat (strB_has hk); exact absurd hw h
      · simpa using hk)]
    simp

end Go.Proofs.YtepacoacalhdcaaGreat

namespace Go.Proofs.YtepacoacalhdcaaGreat
open Go.RowKit
set_option linter.unusedVariables false
set_option linter.unusedSimpArgs false

theorem insL_len (lt : Int → Int → Bool) (d : Int) (l : List Int) : (insL lt d l).length = l.length + 1 := insM_len lt d l _ (Nat.le_refl _)

/-- As many darts begin at a node as leads end there. -/
theorem aro_deg {ns ls : List Nd} (hw : winB ns ls = true) (k : Nat) : ∀ n, n ≤ ls.length → (aroL ns ls k (2 * n)).length = (atL ls k n).length
  | 0, _ => rfl
  | n + 1, h => by
    have ih := aro_deg hw k n (by omega)
    obtain ⟨p, q, e, hpq, _⟩ := leadOkB_spec (((winB_iff ns ls).1 hw).2.2 n (by omega)).1
    have d0 : dF ls (2 * n) = p := by
      unfold dF
      rw [if_neg (by omega), show 2 * n / 2 = n by omega, e]
    have d1 : dF ls (2 * n + 1) = q := by
      unfold dF
      rw [if_pos (by omega), show (2 * n + 1) / 2 = n by omega, e]
    have ea : atL ls k (n + 1) = if (atN ls n).x = k ∨ (atN ls n).y = k then atL ls k n ++ [(n : Int)] else atL ls k n := rfl
    have e1 : aroL ns ls k (2 * n + 1 + 1) = if dF ls (2 * n + 1) = k then insL (ltD ns ls k) ((2 * n + 1 : Nat) : Int) (aroL ns ls k (2 * n + 1)) else aroL ns ls k (2 * n + 1) := rfl
    have e0 : aroL ns ls k (2 * n + 1) = if dF ls (2 * n) = k then insL (ltD ns ls k) ((2 * n : Nat) : Int) (aroL ns ls k (2 * n)) else aroL ns ls k (2 * n) := rfl
    rw [show 2 * (n + 1) = 2 * n + 1 + 1 by omega, e1, e0, ea, d0, d1, e]
    by_cases hp : (p : Int) = k
    · have hq : ¬ (q : Int) = k := by omega
      rw [if_neg hq, if_pos hp, if_pos (.inl hp), insL_len, ih]; simp
    · by_cases hq : (q : Int) = k
      · rw [if_pos hq, if_neg hp, if_pos (.inr hq), insL_len, ih]; simp
      · rw [if_neg hq, if_neg hp, if_neg (fun h => h.elim hp hq), ih]

def endB (ns ls : List Nd) (k : Int) : Bool := decide (degI ns ls k = 1)

def endsI (ns ls : List Nd) : List Int := fltL (endB ns ls) ns.length

theorem endB_has {ns ls : List Nd} {k : Int} (h : endB ns ls k = true) : hasB ns ls k = true := by
  unfold endB degI at h
  by_cases hh : hasB ns ls k = true
  · exact hh
  · rw [if_neg hh] at h; simp at h

theorem endsI_none {ns ls : List Nd} (h : ¬ winB ns ls = true) : endsI ns ls = [] := fltL_none _ (fun k => by
  by_cases hk : endB ns ls k = true
  · obtain ⟨_, _, _, hw, _⟩ := hasB_nat (endB_has hk); exact absurd hw h
  · simpa using hk) _

theorem endsI_len (ns ls : List Nd) : (endsI ns ls).length ≤ 20 := by
  by_cases h : winB ns ls = true
  · have := fltL_len (endB ns ls) ns.length
    have := ((winB_iff ns ls).1 h).1.1.2
    unfold endsI; omega
  · rw [endsI_none h]; simp

theorem endB_aro {ns ls : List Nd} {k : Nat} (hw : winB ns ls = true) (hk : k < ns.length) : endB ns ls k = decide ((aroL ns ls k (2 * ls.length)).length = 1) := by
  have hh : hasB ns ls k = true := by
    unfold hasB
    rw [hw, (idxB_iff _ _).2 (by omega)]; rfl
  unfold endB degI atsI
  rw [if_pos hh, if_pos hh, aro_deg hw k _ (Nat.le_refl _), decide_eq_decide]
  omega

end Go.Proofs.YtepacoacalhdcaaGreat

namespace Go.Proofs.YtepacoacalhdcaaGreat
open Go.RowKit
set_option linter.unusedVariables false
set_option linter.unusedSimpArgs false

theorem twinI_tw {d : Nat} (h : d < 40) : twinI (d : Int) = (tw d : Nat) := by
  unfold twinI; rw [if_pos (by simp [inB]; omega), tw_xor h]

set_option maxRecDepth 100000 in
theorem implNextN (ns ls : List Nd) (vn vl : Value) (d : Nat) (w : World) (hn : Prs w vn ns) (hl : Prs w vl ls) (hw : winB ns ls = true) (hd : d < 2 * ls.length) :
    Calls Tryz.prog 196 #[.agg #[vn, vl], .int .i64 d] w (IntIs (nxN ns ls d : Nat) w) := by
  have HN := Lib.hid hn
  have HL := Lib.hid hl
  obtain ⟨A, c, rfl⟩ := prs_form2 hn
  obtain ⟨A2, c2, rfl⟩ := prs_form2 hl
  clear hn hl
  have H0 := Lib.hid (held_pair w (.slice A ns.length c) (.slice A2 ls.length c2) 96)
  have h20 := ((winB_iff ns ls).1 hw).1.2
  have HT := implTwin (d : Int)
  rw [twinI_tw (by omega)] at HT
  have HT := Lib.hid HT
  have HS := fun w h1 h2 => implTurned ns ls (.slice A ns.length c) (.slice A2 ls.length c2) (tw d) (-1) w h1 h2 hw (tw_lt hd) (.inr rfl)
  rw [nx_step hw hd] at HS
  unfold IntIs at HS
  have HS := Lib.hid HS
  clear hw hd h20
  generalize nxN ns ls d = r at *
  generalize tw d = t at *
  go_enter Tryz.func196, Tryz.ntmps196
  go_wp2_with fail
  refine regionD (S := fun W => Held _ W [(w.heap.size, 0, .slice A ns.length c), (w.heap.size, 1, .slice A2 ls.length c2)]) (by kernel_rfl) H0.out.drew ?_
  iterate 5 (refine takeT (v := ?_) rfl (by kernel_rfl) (by kernel_rfl) (by kernel_rfl) ?_ ?_; rotate_left; (first | (refine Or.inr ⟨by rfl, ?_⟩; with_reducible rfl) | (refine Or.inl ⟨by rfl, fun W hS => detRes_value (w' := W) ?_ hS⟩; obtain ⟨x0, x1, _⟩ := hS.1; go_simp; first | done | with_reducible rfl) | (refine Or.inl ⟨by rfl, fun W hS => ?_⟩; refine detRes_call (w' := W) (f := ?_) (args := ?_) ?_ ?_; rotate_left 2; (go_simp; (refine ⟨?_, ?_⟩ <;> with_reducible rfl)); (first | (with_reducible refine (HT.out _).mono ?_) | (with_reducible refine (HS.out _ (HN.out.step hS.below) (HL.out.step hS.below)).mono ?_) | fail); (first | (rintro e wn ⟨rfl, hb⟩; refine ⟨?_, hS.step hb⟩; with_reducible rfl) | (rintro e wn ⟨rfl, rfl⟩; refine ⟨?_, hS⟩; with_reducible rfl) | fail)) | fail); (simp only [Act.put, List.setIfInBounds_toArray, List.set_cons_zero, List.set_cons_succ]))
  refine doneD (by kernel_rfl) fun wH2 HS => ?_
  have H2 := Lib.hid HS; clear HS
  try clear x0 x1
  obtain ⟨x0, x1, _⟩ := H2.out.1
  go_wp2_with fail
  go_ret
  exact ⟨rfl, H2.out.below⟩

set_option maxRecDepth 100000 in
theorem specNextN (ns ls : List Nd) (vn vl : Value) (d : Nat) (w : World) (hn : Prs w vn ns) (hl : Prs w vl ls) (hw : winB ns ls = true) (hd : d < 2 * ls.length) :
    Calls Tryz.prog 172 #[.agg #[vn, vl], .int .i64 d] w (IntIs (nxN ns ls d : Nat) w) := by
  have HN := Lib.hid hn
  have HL := Lib.hid hl
  obtain ⟨A, c, rfl⟩ := prs_form2 hn
  obtain ⟨A2, c2, rfl⟩ := prs_form2 hl
  clear hn hl
  have H0 := Lib.hid (held_pair w (.slice A ns.length c) (.slice A2 ls.length c2) 32)
  have h20 := ((winB_iff ns ls).1 hw).1.2
  have hx := tw_xor (d := d) (by omega)
  have HS := fun w h1 h2 => specStep ns ls (.slice A ns.length c) (.slice A2 ls.length c2) (tw d) (-1) w h1 h2 hw (tw_lt hd) (.inr rfl)
  rw [nx_step hw hd] at HS
  unfold IntIs at HS
  have HS := Lib.hid HS
  clear hw hd h20
  generalize nxN ns ls d = r at *
  generalize tw d = t at *
  go_enter Tryz.func172, Tryz.ntmps172
  go_wp2_with fail
  refine (HS.out _ (HN.out.step H0.out.below) (HL.out.step H0.out.below)).mono ?_
  rintro e wH2 ⟨rfl, hb⟩
  have H2 := Lib.hid ((H0.out).step hb); clear hb
  try clear x0 x1
  obtain ⟨x0, x1, _⟩ := H2.out.1
  go_wp2_with fail
  go_ret
  exact ⟨rfl, H2.out.below⟩

end Go.Proofs.YtepacoacalhdcaaGreat

namespace Go.Proofs.YtepacoacalhdcaaGreat
open Go.RowKit
set_option linter.unusedVariables false
set_option linter.unusedSimpArgs false

theorem specInB (x a b : Int) (w : World) :
    Calls Tryz.prog 70 #[.int .i64 x, .int .i64 a, .int .i64 b] w (BoolIs (inB x a b) w) :=
  (specIn x a b w).mono fun e w' h => ⟨h.1, h.2 ▸ Below.refl _ _⟩

def PairIs (n : Nd) (w : World) (e : Ending) (w' : World) : Prop := e = .returned n.val ∧ Below w.heap.size w w'

def shB (s : Nd) : Bool := inB s.x 1 40 && inB s.y 1 40

theorem shB_iff (s : Nd) : shB s = true ↔ (1 ≤ s.x ∧ s.x ≤ 40) ∧ (1 ≤ s.y ∧ s.y ≤ 40) := by simp [shB, inB]

def holdsB (s p : Nd) : Bool := decide (p.x ≤ s.x) && decide (p.y ≤ s.y)

def fitsB (s p : Nd) (g : Bool) : Bool := shB s && shB p && (holdsB s p || (!g && holdsB s ⟨p.y, p.x⟩))

def cutsI (s p : Nd) : Int := if fitsB s p true = true then (cond (decide (s.x = p.x)) 0 1) + (cond (decide (s.y = p.y)) 0 1) else -1

def mostI (s p : Nd) : Int := if shB s && shB p then s.x / p.x * (s.y / p.y) else 0

end Go.Proofs.YtepacoacalhdcaaGreat

namespace Go.Proofs.YtepacoacalhdcaaGreat
open Go.RowKit
set_option linter.unusedVariables false
set_option linter.unusedSimpArgs false

structure Tr where
  x : Int
  y : Int
  z : Int
deriving DecidableEq

def Tr.val (t : Tr) : Value := .agg #[.int .i64 t.x, .int .i64 t.y, .int .i64 t.z]

def TriIs (t : Tr) (w : World) (e : Ending) (w' : World) : Prop := e = .returned t.val ∧ Below w.heap.size w w'

theorem heldT1 (w : World) (a : Tr) (T : TypeId) : Held w (w.alloc (.cells #[.int .i64 a.x, .int .i64 a.y, .int .i64 a.z] T)) [(w.heap.size, 0, .int .i64 a.x), (w.heap.size, 1, .int .i64 a.y), (w.heap.size, 2, .int .i64 a.z)] :=
  (Held.none_ w).new2 w.heap.size rfl [.int .i64 a.x, .int .i64 a.y, .int .i64 a.z] T

theorem heldT2 (w : World) (a b : Tr) (T U : TypeId) : Held w ((w.alloc (.cells #[.int .i64 a.x, .int .i64 a.y, .int .i64 a.z] T)).alloc (.cells #[.int .i64 b.x, .int .i64 b.y, .int .i64 b.z] U)) [(w.heap.size + 1, 0, .int .i64 b.x), (w.heap.size + 1, 1, .int .i64 b.y), (w.heap.size + 1, 2, .int .i64 b.z), (w.heap.size, 0, .int .i64 a.x), (w.heap.size, 1, .int .i64 a.y), (w.heap.size, 2, .int .i64 a.z)] :=
  (heldT1 w a T).new2 (w.heap.size + 1) (by simp) [.int .i64 b.x, .int .i64 b.y, .int .i64 b.z] U

theorem toStain_any (t : Tr) (w : World) :
    Calls Tryz.prog 117 #[t.val] w (TriIs t w) := by
  obtain ⟨x, y, z⟩ := t
  unfold Tr.val
  go_enter Tryz.func117, Tryz.ntmps117
  go_wp2_with fail
  refine bodyPost_ret (v := .agg #[.int .i64 x, .int .i64 y, .int .i64 z]) (by simp [results, Tryz.results117, go_sem]) rfl ⟨rfl, below3 w _ _ _⟩

/-- Each of the three is in its range. -/
def triB (a1 a2 b1 b2 c1 c2 : Int) (t : Tr) : Bool := inB t.x a1 a2 && inB t.y b1 b2 && inB t.z c1 c2

theorem triB_iff (a1 a2 b1 b2 c1 c2 : Int) (t : Tr) : triB a1 a2 b1 b2 c1 c2 t = true ↔ (a1 ≤ t.x ∧ t.x ≤ a2) ∧ (b1 ≤ t.y ∧ t.y ≤ b2) ∧ (c1 ≤ t.z ∧ t.z ≤ c2) := by simp [triB, inB, and_assoc]

def fireB (t : Tr) : Bool := triB 400 900 1 24 1 100 t

def stainB (t : Tr) : Bool := triB 0 1000 0 1000 0 1000 t

def sunB (t : Tr) : Bool := triB (-1000) 1000 1 1000 1 100 t

theorem specStainOk (f : Tr) (w : World) :
    Calls Tryz.prog 165 #[f.val] w (BoolIs (stainB f) w) := by
  have HA := Lib.hid (fun w => specInB f.x 0 1000 w)
  have HB := Lib.hid (fun w => specInB f.y 0 1000 w)
  have HC := Lib.hid (fun w => specInB f.z 0 1000 w)
  have HR := Lib.hid (show stainB f = (inB f.x 0 1000 && inB f.y 0 1000 && inB f.z 0 1000) from rfl)
  have H0 := Lib.hid (heldT1 w f 139)
  obtain ⟨x, y, z⟩ := f
  simp only at HA HB HC HR H0
  generalize stainB ⟨x, y, z⟩ = r at *
  generalize inB x 0 1000 = d1 at *
  generalize inB y 0 1000 = d2 at *
  generalize inB z 0 1000 = d3 at *
  unfold Tr.val at *
  cases d1 <;> cases d2 <;> cases d3
  all_goals
    go_enter Tryz.func165, Tryz.ntmps165
    go_wp2_with fail
    repeat' (first | ((first | (with_reducible refine (HA.out _).mono ?_) | (with_reducible refine (HB.out _).mono ?_) | (with_reducible refine (HC.out _).mono ?_) | fail); rintro e wn ⟨rfl, hb⟩; have H0 := Lib.hid (H0.out.step hb); clear hb; (try clear x0 x1 x2); obtain ⟨x0, x1, x2, _⟩ := H0.out.1; go_wp2_with fail) | fail)
    go_ret
    exact ⟨ret_bool (by rw [HR.out]; simp), H0.out.below⟩

def inR (xs : List Int) (a b : Int) : Bool := xs.all fun x => inB x a b

set_option maxRecDepth 100000 in
theorem implInR (xs : List Int) (v : Value) (a b : Int) (w : World) (hv : Seq w v xs) : Calls Tryz.prog 143 #[v, .int .i64 a, .int .i64 b] w (BoolIs (inR xs a b) w) := by
  have hlen := hv.len
  obtain ⟨A, c, rfl, _, _, hcs⟩ := hv.form
  clear hv
  have HR := Lib.hid (show inR xs a b = xs.all fun x => inB x a b from rfl)
  generalize inR xs a b = r at *
  go_enter Tryz.func143, Tryz.ntmps143
  go_wp2_with fail
  go_loopw [11] (fun i wr => ∃ m : Nat, m ≤ xs.length ∧ i = .int .i64 m ∧ ((xs.take m).all fun x => inB x a b) = true ∧ wr = w) (fun i _ => xs.length - (intOf i).toNat)
  case atStart => exact ⟨0, Nat.zero_le _, rfl, by simp, rfl⟩
  case round =>
    obtain ⟨m, hm, rfl, ha, rfl⟩ := hrel
    have HA := Lib.hid ha; clear ha
    by_cases hlt : m < xs.length
    · obtain ⟨bb, o, rfl, hbl, hc⟩ := hcs m hlt
      have HT := Lib.hid (show xs.take (m + 1) = xs.take m ++ [atZ xs m] from by rw [List.take_succ_eq_append_getElem hlt, atZ_get hlt])
      have HM := Lib.hid (show atZ xs m ∈ xs from by rw [← atZ_get hlt]; exact List.getElem_mem hlt)
      have hz1 : (m : Int) < (xs.length : Int) := by omega
      have hz2 : (0 : Int) ≤ m := by omega
      generalize atZ xs m = z at *
      by_cases h1 : z < a
      · have H1 := Lib.hid h1
        go_wp2_with fail
        go_ret
        exact ⟨ret_bool (by rw [HR.out]; exact (List.all_eq_false.2 ⟨z, HM.out, by have := H1.out; simp [inB]; omega⟩).symm), Below.refl _ _⟩
      · by_cases h2 : b < z
        · have H1 := Lib.hid h2
          go_wp2_with fail
          go_ret
          exact ⟨ret_bool (by rw [HR.out]; exact (List.all_eq_false.2 ⟨z, HM.out, by have := H1.out; simp [inB]; omega⟩).symm), Below.refl _ _⟩
        · have H1 := Lib.hid h1
          have H2 := Lib.hid h2
          go_wp2_with fail
          exact ⟨⟨m + 1, by omega, by go_num, by rw [HT.out, List.all_append, HA.out]; have := H1.out; have := H2.out; simp [inB]; omega, trivial⟩, by simp [intOf]; omega⟩
    · obtain rfl : m = xs.length := by omega
      go_wp2_with fail
      go_ret
      exact ⟨ret_bool (by rw [HR.out, ← HA.out, List.take_length]), Below.refl _ _⟩

theorem Ints.lit (w : World) (b B : Nat) (hb : b = w.heap.size) (hB : B ≤ b) (xs : List Int) (h : xs.length ≤ 1000000) (cs : Array Value) (hc : cs = (xs.map fun x => Value.int .i64 x).toArray) :
    Ints (w.alloc (.cells cs 3)) B (.slice (some ⟨b, 0, none⟩) xs.length xs.length) xs := by
  subst hb hc
  have := World.ownsRow_lit (base := B) (e := 3) (size := 1) w (xs.map fun x => Value.int .i64 x).toArray xs.length hB (by unfold maxLen; omega) (by simp)
  unfold Ints
  simpa using this

set_option maxRecDepth 100000 in
theorem implStain (f : Tr) (w : World) :
    Calls Tryz.prog 192 #[f.val] w (BoolIs (stainB f) w) := by
  have H0 := Lib.hid (heldT1 w f 139)
  have HA := fun v w hv => implInR [f.x, f.y, f.z] v 0 1000 w hv
  have hr : inR [f.x, f.y, f.z] 0 1000 = stainB f := by simp [inR, stainB, triB, Bool.and_assoc]
  rw [hr] at HA
  have HA := Lib.hid HA
  clear hr
  obtain ⟨x, y, z⟩ := f
  generalize stainB ⟨x, y, z⟩ = r at *
  unfold Tr.val
  simp only at H0 HA
  go_enter Tryz.func192, Tryz.ntmps192
  go_wp2_with fail
  refine (HA.out _ _ (Ints.lit (w.alloc (.cells #[.int .i64 x, .int .i64 y, .int .i64 z] 139)) (w.heap.size + 1) 0 (by simp) (by omega) [x, y, z] (by simp) _ rfl).seq).mono ?_
  rintro e w' ⟨rfl, hb⟩
  have H1 := Lib.hid ((H0.out.alloc _).step hb); clear hb
  go_wp2_with fail
  go_ret
  exact ⟨rfl, H1.out.below⟩

end Go.Proofs.YtepacoacalhdcaaGreat
