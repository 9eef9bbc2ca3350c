/-
  The faces other than the wall around; those with the oldest glass: of the program and of the model.
-/
import Derived.Test.YtfckgidilbjokaaGreatHis
namespace Go.Proofs.YtfckgidilbjokaaGreat
open Go.RowKit
set_option linter.unusedVariables false
set_option linter.unusedSimpArgs false

def innP (o : Int) (k : Nat) : Bool := !((k : Int) == o)
noncomputable def innW (ns ls : List Nd) : List Int := fltN (innP (outW ns ls)) (wF ns ls).length
theorem innW_len (ns ls : List Nd) : (innW ns ls).length ≤ 40 := by
  have := fltN_len (innP (outW ns ls)) (wF ns ls).length
  have := wF_len (ns := ns) (ls := ls)
  unfold innW
  omega
theorem innW_at {ns ls : List Nd} {i : Nat} (h : i < (innW ns ls).length) : ∃ k : Nat, atZ (innW ns ls) i = (k : Int) ∧ k < (wF ns ls).length := by
  obtain ⟨k, h1, h2, _⟩ := (fltN_mem (innP (outW ns ls)) (wF ns ls).length (atZ (innW ns ls) i)).1 (by rw [← atZ_get h]; exact List.getElem_mem h)
  exact ⟨k, h1, h2⟩
/-- The least of some numbers, or 3001. -/
def mnX (hs l : List Int) : Int := l.foldl (fun a x => min a (atZ hs x.toNat)) 3001
theorem mnX_app (hs l : List Int) (x : Int) : mnX hs (l ++ [x]) = min (mnX hs l) (atZ hs x.toNat) := by unfold mnX; rw [List.foldl_append]; rfl
def olX (hs l : List Int) : List Int := l.filter fun x => atZ hs x.toNat == mnX hs l
theorem mnX_le (hs : List Int) : ∀ (n : Nat) (l : List Int), l.length = n → ∀ x, x ∈ l → mnX hs l ≤ atZ hs x.toNat
  | 0, l, h, x, hx => by
    rw [List.length_eq_zero_iff] at h
    subst h
    simp at hx
  | n + 1, l, h, x, hx => by
    obtain ⟨t, y, rfl⟩ : ∃ t y, l = t ++ [y] := ⟨l.dropLast, l.getLast (by intro e; subst e; simp at h), (List.dropLast_concat_getLast _).symm⟩
    rw [mnX_app]
    rw [List.mem_append] at hx
    rcases hx with hx | hx
    · have := mnX_le hs n t (by simpa using h) x hx
      omega
    · have e : x = y := by simpa using hx
      subst e
      omega
theorem olX_less {hs l : List Int} {x : Int} (h : atZ hs x.toNat < mnX hs l) : mnX hs (l ++ [x]) = atZ hs x.toNat ∧ olX hs (l ++ [x]) = [x] := by
  have e : mnX hs (l ++ [x]) = atZ hs x.toNat := by rw [mnX_app]; omega
  refine ⟨e, ?_⟩
  unfold olX
  rw [e, List.filter_append, List.filter_eq_nil_iff.2 (fun y hy => by
    have := mnX_le hs _ l rfl y hy
    simp only [beq_iff_eq]
    omega)]
  simp
theorem olX_same {hs l : List Int} {x : Int} (h : atZ hs x.toNat = mnX hs l) : mnX hs (l ++ [x]) = mnX hs l ∧ olX hs (l ++ [x]) = olX hs l ++ [x] := by
  have e : mnX hs (l ++ [x]) = mnX hs l := by rw [mnX_app]; omega
  refine ⟨e, ?_⟩
  unfold olX
  rw [e, List.filter_append]
  simp [h]
theorem olX_more {hs l : List Int} {x : Int} (h : mnX hs l < atZ hs x.toNat) : mnX hs (l ++ [x]) = mnX hs l ∧ olX hs (l ++ [x]) = olX hs l := by
  have e : mnX hs (l ++ [x]) = mnX hs l := by rw [mnX_app]; omega
  refine ⟨e, ?_⟩
  unfold olX
  rw [e, List.filter_append, List.filter_cons_of_neg (by simp; omega)]
  simp
def mnF (hs : List Int) (p : Nat → Bool) : Nat → Int
  | 0 => 3001
  | n + 1 => if p n = true then min (mnF hs p n) (atZ hs n) else mnF hs p n
theorem mnF_succ (hs : List Int) (p : Nat → Bool) (n : Nat) : mnF hs p (n + 1) = if p n = true then min (mnF hs p n) (atZ hs n) else mnF hs p n := rfl
theorem mnX_flt (hs : List Int) (p : Nat → Bool) : ∀ n, mnX hs (fltN p n) = mnF hs p n
  | 0 => rfl
  | n + 1 => by
    rw [fltN_succ, mnF_succ]
    by_cases hp : p n = true
    · rw [if_pos hp, if_pos hp, mnX_app, mnX_flt hs p n]
      rfl
    · rw [if_neg hp, if_neg hp, mnX_flt hs p n]
theorem flt_filter (p : Nat → Bool) (q : Int → Bool) : ∀ n, (fltN p n).filter q = fltN (fun k => p k && q (k : Int)) n
  | 0 => rfl
  | n + 1 => by
    rw [fltN_succ, fltN_succ, ← flt_filter p q n]
    by_cases hp : p n = true
    · rw [if_pos hp, List.filter_append]
      by_cases hq : q (n : Int) = true
      · simp [hp, hq]
      · simp [hp, hq]
    · rw [if_neg hp, if_neg (by simp [hp])]
noncomputable def oldW (ns ls : List Nd) (hs : List Int) : List Int := if listB ns ls 0 3000 hs = true then olX hs (innW ns ls) else []
theorem oldW_len (ns ls : List Nd) (hs : List Int) : (oldW ns ls hs).length ≤ 40 := by
  unfold oldW
  split
  · have := innW_len ns ls
    have := List.length_filter_le (fun x => atZ hs x.toNat == mnX hs (innW ns ls)) (innW ns ls)
    unfold olX
    omega
  · simp
theorem oldW_is {ns ls : List Nd} {hs : List Int} (h : listB ns ls 0 3000 hs = true) : oldW ns ls hs = fltN (fun k => innP (outW ns ls) k && (atZ hs k == mnF hs (innP (outW ns ls)) (wF ns ls).length)) (wF ns ls).length := by
  unfold oldW olX innW
  rw [if_pos h, flt_filter, mnX_flt]
  rfl

set_option maxRecDepth 100000 in
set_option maxHeartbeats 2000000 in
theorem implInner (ns ls : List Nd) (v1 v2 v3 v4 : Value) (rs : List (List Int)) (ds : List Int) (B : Nat) (w : World) (hn : Prs w v1 ns) (hl : Prs w v2 ls) (hf : Faces w B v3 rs) (ha : Ints w B v4 ds) (hok : RowsOk ns ls rs) :
    Calls Tryz.prog 66 #[.agg #[v1, v2, v3, v4]] w (IntsNew (fltN (innP (firstI (outP ns ls rs) rs.length)) rs.length) w) := by
  have h40 := hok.1
  have HS := Lib.hid (fun W hb => implOuter ns ls v1 v2 v3 v4 rs ds B W (hn.step hb) (hl.step hb) (hf.step hb) (ha.step hb) hok)
  unfold IntIs at HS
  obtain ⟨A, c, rfl⟩ := prs_form2 hn
  obtain ⟨A2, c2, rfl⟩ := prs_form2 hl
  obtain ⟨A3, c3, rfl⟩ := faces_form hf
  obtain ⟨A4, c4, rfl⟩ := ints_form ha
  have H0 := Lib.hid (heldG w (.slice A ns.length c) (.slice A2 ls.length c2) (.slice A3 rs.length c3) (.slice A4 ds.length c4) 72)
  obtain ⟨i0, hi, hz0, hz1, hz2⟩ := info_parts infoInt
  have HI := Lib.hid (And.intro hi (And.intro hz0 (And.intro hz1 hz2))); clear hi hz0 hz1 hz2
  clear hn hl hf ha hok
  generalize firstI (outP ns ls rs) rs.length = o at *
  have HP := Lib.hid (fun k => show innP o k = !((k : Int) == o) from rfl)
  have HU := Lib.hid (fltN_succ (innP o))
  have HLN := Lib.hid (fltN_len (innP o))
  have HZ := Lib.hid (show fltN (innP o) 0 = [] from rfl)
  generalize fltN (innP o) = X at *
  generalize innP o = p at *
  obtain ⟨x0, x1, x2, x3, _⟩ := H0.out.1
  go_enter Tryz.func66, Tryz.ntmps66
  go_wp2_with fail
  refine (HS.out _ H0.out.below).mono ?_
  rintro e w1 ⟨rfl, hb⟩
  have H1 := Lib.hid (H0.out.step hb); clear hb x0 x1 x2 x3 H0
  obtain ⟨x0, x1, x2, x3, _⟩ := H1.out.1
  obtain ⟨z0, z1, z2, z3, _⟩ := H1.out.2.1
  go_wp2_with fail
  clear x0 x1 x2 x3 z0 z1 z2 z3
  go_loopw [4, 12] (fun v i wr => ∃ m : Nat, m ≤ rs.length ∧ i = .int .i64 m ∧ Ints wr (w.heap.size + 1) v (X m) ∧ Held w wr [(w.heap.size, 0, .slice A ns.length c), (w.heap.size, 1, .slice A2 ls.length c2), (w.heap.size, 2, .slice A3 rs.length c3), (w.heap.size, 3, .slice A4 ds.length c4)]) (fun _ i _ => rs.length - (intOf i).toNat)
  case atStart => exact ⟨0, Nat.zero_le _, rfl, by rw [HZ.out]; exact Ints.made _ _ _ rfl H1.out.2.1.1, H1.out.alloc _⟩
  case round =>
    clear H1
    obtain ⟨m, hm, rfl, hown, hh⟩ := hrel
    have HO2 := Lib.hid hown; clear hown
    have H2 := Lib.hid hh; clear hh
    by_cases hlt : m < rs.length
    · have q1 : (0 : Int) ≤ m := by omega
      have q2 : (m : Int) < (rs.length : Int) := by omega
      have HUM := Lib.hid (HU.out m)
      have hln := HLN.out m
      have HPM := Lib.hid (HP.out m)
      obtain ⟨b, hb⟩ : ∃ b, ((m : Int) == o) = b := ⟨_, rfl⟩
      rw [hb] at HPM
      rw [HPM.out] at HUM
      have hn1 : ((m : Int) != o) = !b := by rw [← hb]; rfl
      cases b <;> simp only [Bool.not_true, Bool.not_false] at hn1
      · obtain ⟨hi, hz0, hz1, hz2⟩ := HI.out
        have hsz1 := H2.out.2.1.1
        go_wp2_with (at_builtin; refine wpList_append_own _ rfl _ _ 26 rfl (w.heap.size + 1) 3 i0 (.int .i64 0) 1 8 Tryz.underlying26 hi hz0 hz1 hz2 rfl (by decide) _ _ _ rfl (World.ownsRow.alloc HO2.out _) ⟨_, 0, none⟩ 1 1 [.int .i64 m] rfl rfl ?c1 ?c2 ?c3 ?c4 ?c5 ?_)
        case c1 => exact cell_one_new _ _ _
        case c2 => simp [Value.oneCell']
        case c3 => unfold maxLen; omega
        case c4 => omega
        case c5 => simp <;> omega
        intro v' w5 hown hgrow _
        have H5 := Lib.hid (H2.out.stepB (B := w.heap.size + 1) ⟨Nat.lt_succ_self _, Nat.lt_succ_self _, Nat.lt_succ_self _, Nat.lt_succ_self _, trivial⟩ (grown_below HO2.out hsz1 hgrow) (Nat.le_succ _))
        have HO5 := Lib.hid (Ints.more hown); clear hown hgrow
        go_wp2_with fail
        exact ⟨⟨m + 1, by omega, by go_num, by rw [HUM.out]; exact HO5.out, H5.out⟩, by simp [intOf]; omega⟩
      · go_wp2_with fail
        exact ⟨⟨m + 1, by omega, by go_num, by rw [HUM.out]; exact HO2.out, H2.out⟩, by simp [intOf]; omega⟩
    · obtain rfl : m = rs.length := by omega
      go_wp2_with fail
      go_ret
      exact ⟨_, rfl, HO2.out.mono (Nat.le_succ _), H2.out.below⟩
end Go.Proofs.YtfckgidilbjokaaGreat
