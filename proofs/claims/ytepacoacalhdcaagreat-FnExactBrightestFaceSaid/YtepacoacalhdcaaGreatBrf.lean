/-
  The brightest face, of the program.
-/
import Derived.Test.YtepacoacalhdcaaGreatLgt
namespace Go.Proofs.YtepacoacalhdcaaGreat
open Go.RowKit Go.Maps
set_option linter.unusedVariables false
set_option linter.unusedSimpArgs false

theorem Best.congr {p p' : Nat → Bool} {T : Nat → Int} {n : Nat} {b m : Int} (e : ∀ k, k < n → p' k = p k) (h : Best p T n b m) : Best p' T n b m := by
  rcases h with ⟨rfl, rfl, h1⟩ | ⟨j, h1, h2, rfl, rfl, h3⟩
  · exact .inl ⟨rfl, rfl, fun k hk => by rw [e k hk]; exact h1 k hk⟩
  · exact .inr ⟨j, h1, by rw [e j h1]; exact h2, rfl, rfl, fun k hk hp => h3 k hk (by rw [← e k hk]; exact hp)⟩

/-- b is the brightest of the faces that have come, m its light. -/
def brB (ns ls : List Nd) (xs : List Tr) (left : Lit → Bool) (b m : Int) : Prop := Best (fun i => innP (outW ns ls) i && !left (keyL i)) (ligT ns ls xs sumS) (wF ns ls).length b m

theorem brB_start {ns ls : List Nd} {xs : List Tr} {D : DataW Value} (hM : MapD D (innN ns ls) (usL ns ls xs)) : brB ns ls xs (Maps.has D) (-1) (-1) := Best.none_ fun k hk => by
  by_cases h : innP (outW ns ls) k = true
  · rw [show Maps.has D (keyL k) = true from (hM.2.1 (k : Int)).2 ⟨k, innN_mem.2 ⟨hk, h⟩, rfl⟩]
    simp
  · rw [show innP (outW ns ls) k = false by simpa using h]
    rfl

theorem brB_step {ns ls : List Nd} {xs : List Tr} (hb : lgtB ns ls xs = true) {left : Lit → Bool} {k : Nat} {b m : Int} (hk : k ∈ innN ns ls) (h : brB ns ls xs left b m) :
    brB ns ls xs (fun z => left z && !z.sameKey (keyL k)) (if m < areaW ns ls (k : Int) * sumS (atT xs k) ∨ (areaW ns ls (k : Int) * sumS (atT xs k) = m ∧ (k : Int) < b) then (k : Int) else b) (if m < areaW ns ls (k : Int) * sumS (atT xs k) ∨ (areaW ns ls (k : Int) * sumS (atT xs k) = m ∧ (k : Int) < b) then areaW ns ls (k : Int) * sumS (atT xs k) else m) := by
  obtain ⟨h1, h2⟩ := innN_mem.1 hk
  have e : ligT ns ls xs sumS k = areaW ns ls (k : Int) * sumS (atT xs k) := if_pos h2
  have h0 := (ligT_bd shadeS (by omega) hb h1).1
  have := Best.more (p' := fun i => innP (outW ns ls) i && !(left (keyL i) && !(keyL i).sameKey (keyL k))) h h1 h0 fun i => by
    rw [key_same]
    by_cases c : i = k
    · subst c; simp [h2]
    · simp [c]
  rw [e] at this
  exact this

theorem brB_end {ns ls : List Nd} {xs : List Tr} (hb : lgtB ns ls xs = true) {left : Lit → Bool} (hl : ∀ kl, left kl = false) {b m : Int} (h : brB ns ls xs left b m) : b = briW ns ls xs := by
  unfold briW
  rw [if_pos hb]
  have h1 := brS_best (p := innP (outW ns ls)) (T := ligT ns ls xs sumS) (wF ns ls).length (wF ns ls).length (Nat.le_refl _) fun i hi _ => (ligT_bd shadeS (by omega) hb hi).1
  exact ((Best.congr (p' := fun i => innP (outW ns ls) i && decide (i < (wF ns ls).length)) (fun k hk => by rw [hl, decide_eq_true hk]; rfl) h).one h1).1

set_option maxRecDepth 100000 in
theorem implStSum (t : Tr) (w : World) (h : stainB t = true) : Calls Tryz.prog 119 #[t.val] w (IntIs (sumS t) w) := by
  obtain ⟨h1, h2, h3⟩ := stain_in h
  obtain ⟨tx, ty, tz⟩ := t
  unfold Tr.val sumS
  simp only at h1 h2 h3 ⊢
  have u1 : IntKind.i64.wrap (tx + ty) = tx + ty := IntWalk.i64_in _ (by omega)
  have u2 : IntKind.i64.wrap (tx + ty + tz) = tx + ty + tz := IntWalk.i64_in _ (by omega)
  go_enter Tryz.func119, Tryz.ntmps119
  go_wp2_with fail
  go_ret
  exact ⟨rfl, below_alloc _ _⟩

set_option maxRecDepth 100000 in
set_option maxHeartbeats 4000000 in
theorem implBrightYes (ns ls : List Nd) (xs : List Tr) (vn vl v : Value) (w : World) (hn : Prs w vn ns) (hl : Prs w vl ls) (hv : Trs w v xs) (hlb : lgtB ns ls xs = true) :
    Calls Tryz.prog 48 #[.agg #[vn, vl], v] w (IntIs (briW ns ls xs) w) := by
  have hh := (lgtB_parts hlb).1
  have HSY := Lib.hid (fun w h1 h2 h3 => implStfYes ns ls xs vn vl v w h1 h2 h3 hlb)
  unfold StfYes at HSY
  have HN := Lib.hid hn
  have HL := Lib.hid hl
  have HV := Lib.hid hv
  have HA := Lib.hid (fun (k : Nat) (hk : k < (wF ns ls).length) v3 v4 B W (h1 : Prs W vn ns) (h2 : Prs W vl ls) (h3 : Faces W B v3 (wF ns ls)) (h4 : Ints W B v4 (atW ns ls)) =>
    implAreaG ns ls k hk vn vl v3 v4 B W (by rw [show gN ns ls = ns from if_pos hh]; exact h1) (by rw [show gL ns ls = ls from if_pos hh]; exact h2) h3 (by rw [show gA ns ls = atW ns ls from if_pos hh]; exact h4))
  unfold IntIs at HA
  have HAT := Lib.hid (fun (k : Nat) (hk : k ∈ innN ns ls) => (⟨lgt_at hlb hk, (lgtB_parts hlb).2.2 k (by have := (lgt_at hlb hk).1; have := (lgtB_parts hlb).2.1; omega)⟩ : _ ∧ stainB (atT xs k) = true))
  have HP0 := Lib.hid (fun (D : DataW Value) (h : MapD D (innN ns ls) (usL ns ls xs)) => brB_start h)
  have HPS := Lib.hid (fun (left : Lit → Bool) (k : Nat) (b m : Int) (hk : k ∈ innN ns ls) (h : brB ns ls xs left b m) => brB_step hlb hk h)
  have HPE := Lib.hid (fun (left : Lit → Bool) (b m : Int) (hl : ∀ kl, left kl = false) (h : brB ns ls xs left b m) => brB_end hlb hl h)
  generalize brB ns ls xs = P at *
  unfold IntIs
  generalize briW ns ls xs = res at *
  have H0 := Lib.hid (held_pair w vn vl 32)
  obtain ⟨A, c, rfl⟩ := prs_form2 hn
  obtain ⟨A2, c2, rfl⟩ := prs_form2 hl
  obtain ⟨A3, c3, rfl⟩ := hv.form2
  clear hn hl hv hh hlb
  go_enter Tryz.func48, Tryz.ntmps48
  obtain ⟨x0, x1, _⟩ := H0.out.1
  go_wp2_with fail
  clear x0 x1
  refine (HSY.out _ (HN.out.step H0.out.below) (HL.out.step H0.out.below) (HV.out.step H0.out.below)).mono ?_
  rintro e w1 ⟨vf, va, bm, rfl, hfi, hm, -, hb⟩
  have H1 := Lib.hid (H0.out.step hb)
  have HFI1 := Lib.hid hfi
  obtain ⟨A7, c7, rfl⟩ := faces_form hfi.f
  obtain ⟨A8, c8, rfl⟩ := ints_form hfi.a
  have H2 := Lib.hid (H1.out.new2 w1.heap.size rfl [.slice A ns.length c, .slice A2 ls.length c2, .slice A7 (wF ns ls).length c7, .slice A8 (atW ns ls).length c8] 98)
  simp only [newFs, List.cons_append, List.nil_append, List.append_nil] at H2
  have bg := below_alloc w1 (.cells #[.slice A ns.length c, .slice A2 ls.length c2, .slice A7 (wF ns ls).length c7, .slice A8 (atW ns ls).length c8] 98)
  have HFI := Lib.hid (HFI1.out.step bg)
  obtain ⟨D, hown, hmd⟩ := hm.step bg
  have HMD := Lib.hid (show MapD D (innN ns ls) (usL ns ls xs) from hmd)
  have HOW := Lib.hid hown
  clear hmd hown hm hb hfi HFI1 H1 bg
  go_wp2_with (at_range; refine wpList_range_own _ rfl _ 142 rfl 3 139 mapLaw Tryz.underlying142 heldR bm _ D rfl HOW.out ?_; intro w0 hrg0 hg0 hs0)
  generalize w1.alloc (.cells #[.slice A ns.length c, .slice A2 ls.length c2, .slice A7 (wF ns ls).length c7, .slice A8 (atW ns ls).length c8] 98) = W8 at *
  go_frame
  have HRG0 := Lib.hid hrg0
  have B0 := Lib.hid (show Below W8.heap.size W8 w0 from ⟨hg0.os, hg0.tape, hg0.output, hg0.size, fun p hp => hg0.block p hp (by simp)⟩)
  clear hrg0 hg0 hs0
  go_loopw [7, 8] (fun u v wr => ∃ (left : Lit → Bool) (cnt : Nat) (b m : Int), wr.ranges Tryz.prog 3 heldR bm W8.heap.size (innN ns ls).length D left cnt ∧ (∀ kl, left kl = true → Maps.has D kl = true) ∧ u = .int .i64 b ∧ v = .int .i64 m ∧ P left b m ∧ Below W8.heap.size W8 wr) (fun _ _ wr => wr.rangeLeft bm W8.heap.size)
  case atStart => exact ⟨_, _, -1, -1, HRG0.out, fun _ h => h, rfl, rfl, HP0.out D HMD.out, B0.out⟩
  case round =>
    clear HRG0 B0
    obtain ⟨left, cnt, b, m, hrg, hsub, rfl, rfl, hp, hbb⟩ := hrel
    have HRG := Lib.hid hrg; clear hrg
    have HSUB := Lib.hid hsub; clear hsub
    have HPP := Lib.hid hp; clear hp
    have BB := Lib.hid hbb; clear hbb
    go_wp2_with (at_next; refine wpList_nextT _ rfl _ rfl rfl HRG.out HSUB.out HMD.out ?_ ?_)
    · intro hl0
      have hres := HPE.out left b m hl0 HPP.out
      rw [hres]
      clear hres
      go_wp2_with fail
      go_ret
      exact ⟨rfl, H2.out.below.trans (BB.out.mono H2.out.below.size)⟩
    · intro k w2 cnt2 hkm hlk hrg2 hlt2 hg2 hs2 hen
      have HKM := Lib.hid hkm; clear hkm
      have HRG2 := Lib.hid hrg2; clear hrg2
      have HLT := Lib.hid hlt2; clear hlt2
      have B2 := Lib.hid (below_of_grown (B := 0) BB.out hg2 (Nat.le_refl _))
      clear hg2 hs2 hlk
      obtain ⟨⟨hkn, hk1, hA0, -, -, -⟩, hst⟩ := HAT.out k HKM.out
      have hS0 := shadeS _ hst
      have HPS1 := Lib.hid (HPS.out left k b m HKM.out HPP.out)
      have HAK := Lib.hid (HA.out k hkn)
      have HSM := Lib.hid (fun W => implStSum (atT xs k) W hst)
      unfold IntIs at HSM
      clear hst
      generalize sumS (atT xs k) = sm at *
      generalize areaW ns ls (k : Int) = ar at *
      generalize atT xs k = t at *
      obtain ⟨tx, ty, tz⟩ := t
      simp only [Tr.val] at hen ⊢
      unfold Tr.val at HSM
      have H3 := Lib.hid (((H2.out.step B2.out)).new2 w2.heap.size rfl [.int .i64 tx, .int .i64 ty, .int .i64 tz] 139)
      simp only [newFs, List.cons_append, List.nil_append, List.append_nil] at H3
      have b3 := below_alloc w2 (.cells #[.int .i64 tx, .int .i64 ty, .int .i64 tz] 139)
      have HRG3 := Lib.hid (HRG2.out.alloc (.cells #[.int .i64 tx, .int .i64 ty, .int .i64 tz] 139))
      have B3 := Lib.hid (B2.out.trans (b3.mono B2.out.size))
      have hW3 : (w2.alloc (.cells #[.int .i64 tx, .int .i64 ty, .int .i64 tz] 139)).heap.size = w2.heap.size + 1 := by simp
      clear b3
      have H4b := Lib.hid (H3.out.only (fun ⟨a, b, c, d, e, f, g, _⟩ => ⟨a, b, c, d, e, f, g, trivial⟩) (fun ⟨a, b, c, d, e, f, g, _⟩ => ⟨a, b, c, d, e, f, g, trivial⟩) : Held w (w2.alloc (.cells #[.int .i64 tx, .int .i64 ty, .int .i64 tz] 139)) [(w2.heap.size, 0, .int .i64 tx), (w2.heap.size, 0 + 1, .int .i64 ty), (w2.heap.size, 0 + 1 + 1, .int .i64 tz), (w1.heap.size, 0, .slice A ns.length c), (w1.heap.size, 0 + 1, .slice A2 ls.length c2), (w1.heap.size, 0 + 1 + 1, .slice A7 (wF ns ls).length c7), (w1.heap.size, 0 + 1 + 1 + 1, .slice A8 (atW ns ls).length c8)])
      have H4c := Lib.hid (Held.start H4b.out.1 H4b.out.2.1)
      have HN3 := Lib.hid (HN.out.step (H2.out.below.trans (B3.out.mono H2.out.below.size)))
      have HL3 := Lib.hid (HL.out.step (H2.out.below.trans (B3.out.mono H2.out.below.size)))
      have HFI3 := Lib.hid (HFI.out.step B3.out)
      clear H4b
      obtain ⟨p1, hp1⟩ : ∃ p : Int, ar * sm = p := ⟨_, rfl⟩
      have q1 := shade_mul hA0 hS0
      rw [hp1] at q1 HPS1
      have u1 : IntKind.i64.wrap (ar * sm) = p1 := by rw [hp1]; exact IntWalk.i64_in _ (by omega)
      clear hp1 hA0 hS0
      obtain ⟨x0, x1, x2, x3, x4, x5, x6, x7, x8, _⟩ := H3.out.1
      go_wp2_with fail
      clear x0 x1 x2 x3 x4 x5 x6 x7 x8 hen
      generalize w2.alloc (.cells #[.int .i64 tx, .int .i64 ty, .int .i64 tz] 139) = W3 at *
      have HAR := Lib.hid (fun W (hb : Below W3.heap.size W3 W) => HAK.out (.slice A7 (wF ns ls).length c7) (.slice A8 (atW ns ls).length c8) _ W (HN3.out.step hb) (HL3.out.step hb) (HFI3.out.step hb).f (HFI3.out.step hb).a)
      refine regionD (S := fun W => Held _ W [(w2.heap.size, 0, .int .i64 tx), (w2.heap.size, 0 + 1, .int .i64 ty), (w2.heap.size, 0 + 1 + 1, .int .i64 tz), (w1.heap.size, 0, .slice A ns.length c), (w1.heap.size, 0 + 1, .slice A2 ls.length c2), (w1.heap.size, 0 + 1 + 1, .slice A7 (wF ns ls).length c7), (w1.heap.size, 0 + 1 + 1 + 1, .slice A8 (atW ns ls).length c8)]) (by kernel_rfl) H4c.out.drew ?_
      iterate 7 (refine takeT (v := ?_) rfl (by kernel_rfl) (by kernel_rfl) (by kernel_rfl) ?_ ?_; rotate_left; (first | (refine Or.inr ⟨by rfl, ?_⟩; with_reducible rfl) | (refine Or.inl ⟨by rfl, fun W hS => detRes_value (w' := W) ?_ hS⟩; obtain ⟨x0, x1, x2, x3, x4, x5, x6, _⟩ := hS.1; go_simp; first | done | with_reducible rfl) | (refine Or.inl ⟨by rfl, fun W hS => ?_⟩; refine detRes_call (w' := W) (f := ?_) (args := ?_) ?_ ?_; rotate_left 2; (go_simp; (refine ⟨?_, ?_⟩ <;> with_reducible rfl)); (first | (with_reducible refine (HAR.out _ hS.below).mono ?_) | (with_reducible refine (HSM.out _).mono ?_) | fail); (first | (rintro e wn ⟨rfl, hb⟩; refine ⟨?_, hS.step hb⟩; with_reducible rfl) | (rintro e wn ⟨rfl, rfl⟩; refine ⟨?_, hS⟩; with_reducible rfl) | fail)) | fail); (simp only [Act.put, List.setIfInBounds_toArray, List.set_cons_zero, List.set_cons_succ]))
      refine doneD (by kernel_rfl) fun wH5 HS => ?_
      have H5 := Lib.hid HS; clear HS
      try clear x0 x1 x2 x3 x4 x5 x6
      obtain ⟨x0, x1, x2, x3, x4, x5, x6, _⟩ := H5.out.1
      go_wp2_with fail
      all_goals
        have B5 := Lib.hid (B3.out.trans (H5.out.below.mono B3.out.size))
        have HRG5 := Lib.hid (HRG3.out.kept (grown_of_below H5.out.below) (by simp) (by simp))
        refine ⟨⟨_, cnt2, _, _, HRG5.out, fun kl hkl => HSUB.out kl (by simp only [Bool.and_eq_true] at hkl; exact hkl.1), rfl, rfl, ?_, B5.out⟩, by rw [HRG5.out.left_eq, HRG.out.left_eq]; exact HLT.out⟩
        have h := HPS1.out
        first
          | (rw [if_pos (by omega), if_pos (by omega)] at h; exact h)
          | (rw [if_neg (by omega), if_neg (by omega)] at h; exact h)

set_option maxRecDepth 100000 in
set_option maxHeartbeats 4000000 in
theorem implBrightNo (ns ls : List Nd) (xs : List Tr) (vn vl v : Value) (w : World) (hn : Prs w vn ns) (hl : Prs w vl ls) (hv : Trs w v xs) (hlb : lgtB ns ls xs = false) :
    Calls Tryz.prog 48 #[.agg #[vn, vl], v] w (IntIs (-1) w) := by
  have HSN := Lib.hid (fun w h1 h2 h3 => implStfNo ns ls xs vn vl v w h1 h2 h3 hlb)
  unfold StfNo at HSN
  have HN := Lib.hid hn
  have HL := Lib.hid hl
  have HV := Lib.hid hv
  unfold IntIs
  have H0 := Lib.hid (held_pair w vn vl 32)
  obtain ⟨A, c, rfl⟩ := prs_form2 hn
  obtain ⟨A2, c2, rfl⟩ := prs_form2 hl
  obtain ⟨A3, c3, rfl⟩ := hv.form2
  clear hn hl hv hlb
  go_enter Tryz.func48, Tryz.ntmps48
  obtain ⟨x0, x1, _⟩ := H0.out.1
  go_wp2_with fail
  clear x0 x1
  refine (HSN.out _ (HN.out.step H0.out.below) (HL.out.step H0.out.below) (HV.out.step H0.out.below)).mono ?_
  rintro e w1 ⟨rfl, hb⟩
  have H1 := Lib.hid (H0.out.step hb)
  have H2 := Lib.hid (H1.out.new2 w1.heap.size rfl [.slice none 0 0, .slice none 0 0, .slice none 0 0, .slice none 0 0] 98)
  clear hb H1
  go_wp2_with (at_range; refine wpList_range_nil _ rfl _ rfl rfl ?_)
  generalize w1.alloc (.cells #[.slice none 0 0, .slice none 0 0, .slice none 0 0, .slice none 0 0] 98) = W8 at *
  go_frame
  refine wp_loop_rounds 1 ?_
  rw [rounds_succ]
  go_wp2_with (at_next; refine wpList_next_nil _ rfl _ rfl rfl ?_)
  go_ret
  exact ⟨rfl, H2.out.below.trans ((below_alloc W8 (.mapIter none 0 #[] 0)).mono H2.out.below.size)⟩

theorem implBright (ns ls : List Nd) (xs : List Tr) (vn vl v : Value) (w : World) (hn : Prs w vn ns) (hl : Prs w vl ls) (hv : Trs w v xs) :
    Calls Tryz.prog 48 #[.agg #[vn, vl], v] w (IntIs (briW ns ls xs) w) := by
  by_cases h : lgtB ns ls xs = true
  · exact implBrightYes ns ls xs vn vl v w hn hl hv h
  · have := implBrightNo ns ls xs vn vl v w hn hl hv (by simpa using h)
    unfold briW
    rw [if_neg h]
    exact this
end Go.Proofs.YtepacoacalhdcaaGreat
