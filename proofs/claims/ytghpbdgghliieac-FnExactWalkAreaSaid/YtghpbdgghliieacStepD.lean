/-
  NextAround and LastAround, of the model and of the program: a place further in the order around the node where a dart begins.
-/
import Derived.Test.YtghpbdgghliieacAroF
import Derived.Test.YtghpbdgghliieacShelf
namespace Go.Proofs.Ytghpbdgghliieac
open Go.RowKit
set_option linter.unusedVariables false
set_option linter.unusedSimpArgs false

theorem insM_has (lt : Int → Int → Bool) (d : Int) (l : List Int) : ∀ m x, (x = d ∨ x ∈ l) → x ∈ insM lt d l m
  | 0, x, h => by simpa [insM] using h
  | m + 1, x, h => by
    unfold insM
    split
    · exact insM_has lt d l m x h
    · simp only [List.mem_append, List.mem_cons]
      rcases h with h | h
      · exact .inr (.inl h)
      · rw [← List.take_append_drop (m + 1) l, List.mem_append] at h
        rcases h with h | h
        · exact .inl h
        · exact .inr (.inr h)
theorem sortL_has (lt : Int → Int → Bool) : ∀ (n : Nat) (xs : List Int), xs.length = n → ∀ x, x ∈ xs → x ∈ sortL lt xs
  | 0, xs, h, x, hx => by obtain rfl := List.eq_nil_of_length_eq_zero h; simp at hx
  | n + 1, xs, h, x, hx => by
    have e : xs = xs.take n ++ [atZ xs n] := by
      rw [← atZ_get (by omega), ← List.take_succ_eq_append_getElem (by omega), List.take_of_length_le (by omega)]
    rw [e, sortL_more]
    rw [e, List.mem_append] at hx
    rcases hx with hx | hx
    · exact insM_has _ _ _ _ _ (.inr (sortL_has lt n _ (by simp; omega) x hx))
    · exact insM_has _ _ _ _ _ (.inl (by simpa using hx))
theorem atZ_of_mem {l : List Int} {x : Int} (h : x ∈ l) : ∃ p, p < l.length ∧ atZ l p = x ∧ ∀ j, j < p → atZ l j ≠ x := by
  induction l with
  | nil => simp at h
  | cons a t ih =>
    by_cases e : a = x
    · exact ⟨0, by simp, e, fun j hj => absurd hj (Nat.not_lt_zero _)⟩
    · obtain ⟨p, hp, h1, h2⟩ := ih (by rcases List.mem_cons.1 h with h | h; · exact absurd h.symm e
                                       · exact h)
      refine ⟨p + 1, by simp; omega, h1, fun j hj => ?_⟩
      cases j with
      | zero => exact e
      | succ j => exact h2 j (by omega)
/-- The darts around the node where dart d begins; d's place there. -/
def roundL (ns ls : List Nd) (d : Nat) : List Int := aroL ns ls (dF ls d).toNat (2 * ls.length)
theorem round_place {ns ls : List Nd} {d : Nat} (hw : winB ns ls = true) (hd : d < 2 * ls.length) : ∃ p, p < (roundL ns ls d).length ∧ (roundL ns ls d).length ≤ 12 ∧ atZ (roundL ns ls d) p = d ∧ ∀ j, j < p → atZ (roundL ns ls d) j ≠ d := by
  obtain ⟨a, b, hda, _, _⟩ := dart_nat (ns := ns) hw hd
  have hm : (d : Int) ∈ roundL ns ls d := by
    unfold roundL
    rw [aro_sort]
    exact sortL_has _ _ _ rfl _ (from_mem.2 ⟨d, rfl, hd, by rw [hda]; simp⟩)
  obtain ⟨p, h1, h2, h3⟩ := atZ_of_mem hm
  refine ⟨p, h1, ?_, h2, h3⟩
  unfold roundL
  rw [aro_len hw]
  exact from_le hw _
def stepI (ns ls : List Nd) (s : Int) (d : Int) : Int :=
  if hasDB ns ls d = true then atZ (roundL ns ls d.toNat) (((Lib.idxOf (roundL ns ls d.toNat) d + s + (roundL ns ls d.toNat).length) % ((roundL ns ls d.toNat).length : Int)).toNat) else -1
theorem index_of {l : List Int} {p : Nat} {x : Int} (hp : p < l.length) (h : atZ l p = x) (hn : ∀ j, j < p → atZ l j ≠ x) : Lib.idxOf l x = p := by
  have := Lib.idxOf_hit l l.length p x hp (Nat.le_refl _) h hn
  rwa [List.take_length] at this
theorem indexI {w : World} {B g c : Nat} {xs : List Int} (x : Int) (h : Ints w B (.slice (some ⟨g, 0, none⟩) xs.length c) xs) (hlen : xs.length ≤ 1048576) :
    Calls Try.prog 98 #[.slice (some ⟨g, 0, none⟩) xs.length c, .int .i64 x] w fun e w' => e = .returned (.int .i64 (Lib.idxOf xs x)) ∧ w' = w := by
  have := Any.slices_Index_int (ρ := Try.lays107_ren) { Try.lays107 with } g 0 xs.length c xs x w (Nat.le_refl _) (by omega) (fun j hj => by
    rw [Nat.zero_add, (h.at_ hj).1]; rfl)
  rwa [List.take_length] at this
theorem step_rem (p n : Nat) (s : Int) (hp : p < n) (h : s = 1 ∨ s = -1) : ∃ q : Nat, ((p : Int) + s + n) % (n : Int) = q ∧ q < n ∧ 0 ≤ (p : Int) + s + n := by
  have h1 := Int.emod_nonneg ((p : Int) + s + n) (show (n : Int) ≠ 0 by omega)
  have h2 := Int.emod_lt_of_pos ((p : Int) + s + n) (show (0 : Int) < n by omega)
  exact ⟨(((p : Int) + s + n) % (n : Int)).toNat, by omega, by omega, by omega⟩

set_option maxRecDepth 100000 in
set_option maxHeartbeats 1000000 in
theorem implTurned (ns ls : List Nd) (vn vl : Value) (d : Nat) (s : Int) (w : World) (hn : Prs w vn ns) (hl : Prs w vl ls) (hw : winB ns ls = true) (hd : d < 2 * ls.length) (hs : s = 1 ∨ s = -1) :
    Calls Try.prog 93 #[.agg #[vn, vl], .int .i64 d, .int .i64 s] w (IntIs (stepI ns ls s d) w) := by
  have hh : hasDB ns ls d = true := by unfold hasDB; rw [hw, (idxB_iff _ _).2 (by omega)]; rfl
  have HN := Lib.hid hn
  have HL := Lib.hid hl
  obtain ⟨A, c, rfl⟩ := prs_form2 hn
  obtain ⟨A2, c2, rfl⟩ := prs_form2 hl
  clear hn hl
  have H0 := Lib.hid (held_pair w (.slice A ns.length c) (.slice A2 ls.length c2) 78)
  have h20 := ((winB_iff ns ls).1 hw).1.2
  obtain ⟨a, b, hda, hdb, ha, hb, -⟩ := dart_nat (ns := ns) hw hd
  have HE := Lib.hid (fun w hv => dEnds ls (.slice A ns.length c) (.slice A2 ls.length c2) d w hv hd h20)
  rw [hda, hdb] at HE
  unfold TwoIs at HE
  have HP := Lib.hid (fun w h1 h2 => implAround ns ls (.slice A ns.length c) (.slice A2 ls.length c2) a w h1 h2 hw ha)
  unfold IntsNew at HP
  obtain ⟨p, hp, h12, hat, hne⟩ := round_place (ns := ns) hw hd
  have hidx := index_of hp hat hne
  obtain ⟨q, hq1, hq2, hq3⟩ := step_rem p (roundL ns ls d).length s hp hs
  have HR := Lib.hid (show stepI ns ls s d = atZ (roundL ns ls d) q from by
    unfold stepI
    rw [if_pos hh]
    simp only [Int.toNat_natCast]
    rw [hidx, hq1]; rfl)
  have he : aroL ns ls a (2 * ls.length) = roundL ns ls d := by unfold roundL; rw [hda]; rfl
  rw [he] at HP
  clear he hat hne hh hw hda hdb
  generalize roundL ns ls d = l at *
  generalize stepI ns ls s (d : Int) = r at *
  have HIX := Lib.hid (fun g cc B W (h : Ints W B (.slice (some ⟨g, 0, none⟩) l.length cc) l) => indexI (d : Int) h (by omega))
  rw [hidx] at HIX
  clear hidx
  go_enter Try.func93, Try.ntmps93
  go_wp2_with fail
  refine (HE.out _ (HL.out.step H0.out.below)).mono ?_
  rintro e wH1 ⟨rfl, hb⟩
  have H1 := Lib.hid ((H0.out).step hb); clear hb
  try clear x0 x1
  obtain ⟨x0, x1, _⟩ := H1.out.1
  go_wp2_with fail
  refine (HP.out _ (HN.out.step H1.out.below) (HL.out.step H1.out.below)).mono ?_
  rintro e w2 ⟨v, rfl, hi, hb⟩
  obtain ⟨g, cc, rfl⟩ := hi.some_ (by omega)
  have HI := Lib.hid hi
  have H2 := Lib.hid (H1.out.step hb)
  obtain ⟨c0, -, hgl, -, -⟩ := hi.at_ (j := q) hq2
  clear hi hb x0 x1
  go_wp2_with fail
  refine (HIX.out _ _ _ _ HI.out).mono ?_
  rintro e w' ⟨rfl, rfl⟩
  have hq4 : (0 : Int) ≤ q := by omega
  have hq5 : (q : Int) < l.length := by omega
  have hp2 : (p : Int) < l.length := by omega
  rcases hs with rfl | rfl
  all_goals
    go_wp2_with fail
    go_ret
    exact ⟨ret_int (by rw [HR.out]), H2.out.below⟩

set_option maxRecDepth 100000 in
set_option maxHeartbeats 1000000 in
theorem specStep (ns ls : List Nd) (vn vl : Value) (d : Nat) (s : Int) (w : World) (hn : Prs w vn ns) (hl : Prs w vl ls) (hw : winB ns ls = true) (hd : d < 2 * ls.length) (hs : s = 1 ∨ s = -1) :
    Calls Try.prog 89 #[.agg #[vn, vl], .int .i64 d, .int .i64 s] w (IntIs (stepI ns ls s d) w) := by
  have hh : hasDB ns ls d = true := by unfold hasDB; rw [hw, (idxB_iff _ _).2 (by omega)]; rfl
  have HN := Lib.hid hn
  have HL := Lib.hid hl
  obtain ⟨A, c, rfl⟩ := prs_form2 hn
  obtain ⟨A2, c2, rfl⟩ := prs_form2 hl
  clear hn hl
  have H0 := Lib.hid (held_pair w (.slice A ns.length c) (.slice A2 ls.length c2) 31)
  have h20 := ((winB_iff ns ls).1 hw).1.2
  obtain ⟨a, b, hda, hdb, ha, hb, -⟩ := dart_nat (ns := ns) hw hd
  have HE := Lib.hid (fun w hv => sEnds ls (.slice A ns.length c) (.slice A2 ls.length c2) d w hv hd h20)
  rw [hda, hdb] at HE
  unfold TwoIs at HE
  have HP := Lib.hid (fun w h1 h2 => specAro ns ls (.slice A ns.length c) (.slice A2 ls.length c2) a w h1 h2 hw ha)
  unfold IntsNew at HP
  obtain ⟨p, hp, h12, hat, hne⟩ := round_place (ns := ns) hw hd
  have hidx := index_of hp hat hne
  obtain ⟨q, hq1, hq2, hq3⟩ := step_rem p (roundL ns ls d).length s hp hs
  have HR := Lib.hid (show stepI ns ls s d = atZ (roundL ns ls d) q from by
    unfold stepI
    rw [if_pos hh]
    simp only [Int.toNat_natCast]
    rw [hidx, hq1]; rfl)
  have he : aroL ns ls a (2 * ls.length) = roundL ns ls d := by unfold roundL; rw [hda]; rfl
  rw [he] at HP
  have HAT := Lib.hid hat
  have HNE := Lib.hid hne
  have HHS := Lib.hid hs
  have HQ1 := Lib.hid hq1
  have HQ3 := Lib.hid hq3
  clear he hat hne hh hw hda hdb hidx hs hq1 hq3
  generalize roundL ns ls d = l at *
  generalize stepI ns ls s (d : Int) = r at *
  go_enter Try.func89, Try.ntmps89
  go_wp2_with fail
  refine (HE.out _ (HL.out.step H0.out.below)).mono ?_
  rintro e wH1 ⟨rfl, hb⟩
  have H1 := Lib.hid ((H0.out).step hb); clear hb
  try clear x0 x1
  obtain ⟨x0, x1, _⟩ := H1.out.1
  go_wp2_with fail
  refine (HP.out _ (HN.out.step H1.out.below) (HL.out.step H1.out.below)).mono ?_
  rintro e w2 ⟨v, rfl, hi, hb⟩
  obtain ⟨g, cc, rfl⟩ := hi.some_ (by omega)
  have HI := Lib.hid hi
  have H2 := Lib.hid (H1.out.step hb)
  clear hi hb x0 x1
  go_wp2_with fail
  go_loopw [10] (fun i wr => ∃ m : Nat, m ≤ p ∧ i = .int .i64 m ∧ wr = w2) (fun i _ => p - (intOf i).toNat)
  case atStart => exact ⟨0, Nat.zero_le _, rfl, rfl⟩
  case round =>
    obtain ⟨m, hm, rfl, rfl⟩ := hrel
    obtain ⟨c0, -, hgl, -, -⟩ := HI.out.at_ (j := m) (by omega)
    have hz1 : (m : Int) < l.length := by omega
    have hz2 : (0 : Int) ≤ m := by omega
    by_cases hmp : m = p
    · subst hmp
      rw [HAT.out] at c0
      obtain ⟨c1, -, -, -, -⟩ := HI.out.at_ (j := q) hq2
      have hq4 : (0 : Int) ≤ q := by omega
      have hq5 : (q : Int) < l.length := by omega
      have hq1 := HQ1.out
      have hq3 := HQ3.out
      rcases HHS.out with rfl | rfl
      all_goals
        go_wp2_with fail
        go_ret
        exact ⟨ret_int (by rw [HR.out]), H2.out.below⟩
    · have hn := HNE.out m (by omega)
      have gq : (atZ l m == (d : Int)) = false := by rw [beq_eq_false_iff_ne]; exact hn
      clear hn
      generalize atZ l m = y at *
      go_wp2_with fail
      exact ⟨⟨m + 1, by omega, by go_num, trivial⟩, by simp [intOf]; omega⟩

end Go.Proofs.Ytghpbdgghliieac
